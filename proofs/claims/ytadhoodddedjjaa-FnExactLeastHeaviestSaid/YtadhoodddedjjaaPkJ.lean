/-
  Contract of the model's SplitRound.
-/
import Derived.Test.YtadhoodddedjjaaPkI
import Derived.Deep.QuietTactic
import Derived.BigQuiet
namespace Go.Proofs.Ytadhoodddedjjaa
open Go Go.RowKit
set_option linter.unusedVariables false

/-- What l04Split answers. -/
def RetSplit (ps : List (Int × Int)) (most : Int) (w : World) (e : Ending) (w' : World) : Prop :=
  (FitTo ps most 9 ∧ ∃ v, e = .returned (.tuple #[v, .int .i64 (fill ps most 9).1]) ∧ OwnI w.heap.size w' v (splitL ps most) ∧ Below w.heap.size w w') ∨
  (¬ FitTo ps most 9 ∧ ∃ v, e = .returned (.tuple #[v, .int .i64 (-1)]) ∧ OwnI w.heap.size w' v [] ∧ Below w.heap.size w w')
/-- What weighs in the last bag. -/
def lastW (ps : List (Int × Int)) (most : Int) (m : Nat) : Int := if (fill ps most m).1 = 0 then 0 else most - (fill ps most m).2

theorem fill_zero {ps : List (Int × Int)} (h : OkTo ps ps.length) (h10 : ps.length ≤ 10) {most : Int} (hm : 0 ≤ most) (m : Nat) (hf : FitTo ps most m) (hc : (fill ps most m).1 = 0) : (fill ps most m).2 = 0 := by
  induction m with
  | zero => rfl
  | succ m ih =>
    have hb := fill_bd h h10 most hm m (fun i hi => hf i (by omega))
    have hw := wt_bd h h10 (m : Int)
    rw [fill] at hc ⊢
    split at hc
    · simp only at hc; omega
    · rename_i h1
      rw [if_neg h1]
      have h2 := ih (fun i hi => hf i (by omega)) hc
      simp only
      omega
theorem lastW_bd {ps : List (Int × Int)} (h : OkTo ps ps.length) (h10 : ps.length ≤ 10) {most : Int} (hm : 0 ≤ most) (m : Nat) (hf : FitTo ps most m) : 0 ≤ lastW ps most m ∧ lastW ps most m ≤ 50000 * m := by
  induction m with
  | zero => simp [lastW, fill]
  | succ m ih =>
    have hi := ih (fun i hi => hf i (by omega))
    have hb := fill_bd h h10 most hm m (fun i hi => hf i (by omega))
    have hw := wt_bd h h10 (m : Int)
    have hfm := hf m (by omega)
    unfold lastW at hi ⊢
    rw [fill]
    split
    · rename_i h1
      rw [if_neg (by simp only; omega)]
      simp only
      omega
    · rename_i h1
      simp only
      split
      · omega
      · rename_i h2
        rw [if_neg h2] at hi
        omega
/-- A list that lies from block B on, where it has elements. -/
def InFar (ua : Option Addr) (B : Nat) (w : World) (L : List Int) : Prop := ∀ j, j < L.length → ∃ b, ua = some ⟨b, 0, none⟩ ∧ B ≤ b ∧ Cells w b L
theorem InFar.below {ua : Option Addr} {B : Nat} {w w' : World} {L : List Int} (h : InFar ua B w L) (hb : Below w.heap.size w w') : InFar ua B w' L := fun j hj => by
  obtain ⟨b, e, h1, h2⟩ := h j hj
  exact ⟨b, e, h1, h2.below hb⟩
theorem InFar.set {ua : Option Addr} {B : Nat} {w : World} {L : List Int} (h : InFar ua B w L) (p : Addr) (u : Value) (hp : p.block < B) : InFar ua B (w.setCell p u) L := fun j hj => by
  obtain ⟨b, e, h1, h2⟩ := h j hj
  refine ⟨b, e, h1, fun i hi => ?_⟩
  rw [World.cell?_of_block (w := w) (a := ⟨b, i, none⟩) (heap_setCell_other w p b u (by omega))]
  exact h2 i hi

set_option maxHeartbeats 16000000 in
set_option maxRecDepth 100000 in
theorem ssplitL_any (v : Value) (ps : List (Int × Int)) (most : Int) (w : World) (hv : ReadsQ w v ps) (hvl : vldQ ps = true) (hm1 : 1 ≤ most) (hm2 : most ≤ 9223372036854775807) :
    Calls Try.prog 73 #[v, .int .i64 most] w (RetSplit ps most w) := by
  obtain ⟨h10, hok⟩ := vldQ_spec hvl
  have HVL := Lib.hid hvl
  have HOK := Lib.hid hok
  have HV := Lib.hid hv
  obtain ⟨a, cap, rfl, hrd⟩ := hv
  have HRD : Hid (∀ k, k < ps.length → ∃ b, a = some ⟨b, 0, none⟩ ∧ CellsQ w b ps) := Lib.hid (fun k hk => hrd (fun e => by rw [e] at hk; simp at hk))
  obtain ⟨n, hn⟩ : ∃ n, ps.length = n := ⟨_, rfl⟩
  have HN := Lib.hid hn
  have H10 := Lib.hid h10
  rw [hn] at HV h10 ⊢
  obtain ⟨i0, hi, hz0, hz1, hz2⟩ := info_parts info_i64
  clear hrd hn hok hvl
  go_enter Try.func73, Try.ntmps73
  go_wp2_with (refine wpList_make_full _ rfl _ _ 29 rfl w.heap.size 2 i0 (.int .i64 0) 1 Try.underlying29 hi hz0 hz1 .i64 .i64 _ _ n rfl rfl rfl rfl (by rw [hz2]; omega) (by unfold maxLen; omega) (Nat.le_refl _) ?_; intro w1 hown1 hg1)
  have HO1 : Hid (w1.ownsRow w.heap.size 2 1 (.slice (some ⟨w.heap.size, 0, none⟩) n n) n ((outK ps most 0 0).map (Value.int .i64))) := Lib.hid (by
    rw [outK_zero HOK.out, HN.out]
    exact made_own hown1)
  have HB1 : Hid (Below w.heap.size w w1) := Lib.hid ((Below.refl _ _).grown hg1 (Nat.le_refl _) (fun k hk => by simp at hk))
  have hs1 : w.heap.size < w1.heap.size := (hown1.lt w.heap.size rfl).2
  clear hown1 hg1
  refine (sstopsL_any _ ps _ (HV.out.below HB1.out) HVL.out).mono ?_
  rintro e w2 ⟨u, rfl, o2, b2⟩
  have HB2 : Hid (Below w.heap.size w w2) := Lib.hid (blink HB1.out b2)
  have HO2 := Lib.hid (own_below HO1.out b2)
  have hs2 : w.heap.size < w2.heap.size := Nat.lt_of_lt_of_le hs1 b2.size
  have HSU := Lib.hid o2
  obtain ⟨ua, uc, hu, hur⟩ := o2.reads
  subst hu
  have HUR : Hid (InFar ua w1.heap.size w2 (stopsL ps)) := Lib.hid (fun k hk => by
    obtain ⟨b, e, hc⟩ := hur (fun e => by rw [e] at hk; simp at hk)
    subst e
    exact ⟨b, rfl, (HSU.out.block b rfl).1, hc⟩)
  obtain ⟨l, hl⟩ : ∃ l, (stopsL ps).length = l := ⟨_, rfl⟩
  have HL := Lib.hid hl
  have hl9 : l ≤ 9 := by rw [← hl]; exact stopsL_len ps
  rw [hl]
  clear hur hl b2 o2
  obtain ⟨m0, _, hm09, hst0, hf0, hft0, ho0, hmx0⟩ := next_stop HOK.out H10.out most (by omega) 9 0 (by omega) (FitTo.zero _ _)
  have HI0 : Hid ((stopsTo ps m0).length = 0 ∧ (fill ps most m0).1 - 1 = -1 ∧ lastW ps most m0 = 0 ∧ outK ps most m0 0 = outK ps most 0 0) := Lib.hid ⟨by rw [hst0]; rfl, by rw [hf0]; simp [fill], by simp [lastW, hf0, fill], ho0⟩
  have HFT0 := Lib.hid hft0
  have HMX0 := Lib.hid hmx0
  clear hst0 hf0 hft0 ho0 hmx0
  go_wp2_with fail
  go_loopw [7, 8, 10] (fun bg wg i wr => ∃ m k : Nat, m ≤ 9 ∧ k ≤ l ∧ k = (stopsTo ps m).length ∧ i = .int .i64 k ∧ bg = .int .i64 ((fill ps most m).1 - 1) ∧ wg = .int .i64 (lastW ps most m) ∧ FitTo ps most m ∧ (m = 9 ∨ 0 < wt ps (m : Int)) ∧ wr.ownsRow w.heap.size 2 1 (.slice (some ⟨w.heap.size, 0, none⟩) n n) n ((outK ps most m 0).map (Value.int .i64)) ∧ InFar ua w1.heap.size wr (stopsL ps) ∧ Below w.heap.size w wr) (fun _ _ i _ => l - (intOf i).toNat)
  case atStart => exact ⟨m0, 0, hm09, Nat.zero_le _, HI0.out.1.symm, rfl, by rw [HI0.out.2.1], by rw [HI0.out.2.2.1], HFT0.out, HMX0.out, by rw [HI0.out.2.2.2]; exact HO2.out, HUR.out, HB2.out⟩
  case round =>
    obtain ⟨m, k, hm9, hk, hkm, rfl, rfl, rfl, hft, hmx, hown, hin, hnx⟩ := hrel
    have HFT := Lib.hid hft
    have HOWN := Lib.hid hown
    have HINN := Lib.hid hin
    have HNXX := Lib.hid hnx
    have HKM := Lib.hid hkm
    by_cases hlt : k < l
    · have hm8 : m < 9 := by
        by_cases e : m = 9
        · subst e
          have := HL.out
          unfold stopsL at this
          omega
        · omega
      have hwp : 0 < wt ps (m : Int) := by rcases hmx with h | h <;> omega
      have hsa := stops_at hm8 hwp
      have HST : Hid ((stopsL ps).getD k 0 = (m : Int)) := Lib.hid (by rw [HKM.out]; exact hsa.1)
      obtain ⟨ub, hub, _, hcu⟩ := hin k (by rw [HL.out]; exact hlt)
      subst hub
      have d0 := hcu k (by rw [HL.out]; exact hlt)
      rw [HST.out] at d0
      have hkl : (k : Int) < (l : Int) := by omega
      have hfb := fill_bd HOK.out H10.out most (by omega) m hft
      have hqb := wt_bd HOK.out H10.out (m : Int)
      have hlw := lastW_bd HOK.out H10.out (most := most) (by omega) m hft
      have HFS : Hid (fill ps most (m + 1) = if (fill ps most m).2 < wt ps (m : Int) then ((fill ps most m).1 + 1, most - wt ps (m : Int)) else ((fill ps most m).1, (fill ps most m).2 - wt ps (m : Int))) := Lib.hid rfl
      have HLW : Hid (lastW ps most m = if (fill ps most m).1 = 0 then 0 else most - (fill ps most m).2) := Lib.hid rfl
      have HFZ : Hid ((fill ps most m).1 = 0 → (fill ps most m).2 = 0) := Lib.hid (fill_zero HOK.out H10.out (by omega) m hft)
      have HSU2 : Hid (stopsTo ps (m + 1) = stopsTo ps m ++ [(m : Int)]) := Lib.hid (stopsTo_yes hwp)
      obtain ⟨q, hq⟩ : ∃ q, wt ps (m : Int) = q := ⟨_, rfl⟩
      have HQ := Lib.hid hq
      rw [hq] at hqb HFS hwp
      obtain ⟨c, hc⟩ : ∃ c, (fill ps most m).1 = c := ⟨_, rfl⟩
      obtain ⟨r, hr⟩ : ∃ r, (fill ps most m).2 = r := ⟨_, rfl⟩
      obtain ⟨lw, hlwe⟩ : ∃ x, lastW ps most m = x := ⟨_, rfl⟩
      rw [hc, hr] at hfb HFS HLW HFZ
      rw [hlwe] at hlw HLW ⊢
      rw [hc]
      have hc1 := hfb.1
      have hc2 : c ≤ 9 := by have := hfb.2.1; omega
      have hr1 := hfb.2.2.1
      have hr2 := hfb.2.2.2
      have hq2 := hqb.2
      have hlw1 := hlw.1
      have hlw2 : lw ≤ 450000 := by have := hlw.2; omega
      have hwr : w.heap.size ≤ wr.heap.size := hnx.size
      clear hq hc hr hlwe hft hmx hown hin hnx hfb hqb hlw hsa hcu hkm
      go_wp2_with fail
      refine (sat_any _ ps _ _ (HV.out.below HNXX.out) HVL.out).mono ?_
      rintro e w5 ⟨rfl, b5⟩
      rw [HQ.out]
      have HNX : Hid (Below w.heap.size w w5) := Lib.hid (HNXX.out.trans (b5.mono hwr))
      have HOW := Lib.hid (own_below HOWN.out b5)
      have HIN := Lib.hid (HINN.out.below b5)
      clear b5 d0
      by_cases h1 : q ≤ most
      · have t1 : decide (most < q) = false := decide_eq_false (by omega)
        have hft1 : FitTo ps most (m + 1) := HFT.out.succ (by rw [HQ.out]; exact h1)
        obtain ⟨m', _, hm'9, hst', hf', hft', ho', hmx'⟩ := next_stop HOK.out H10.out most (by omega) (8 - m) (m + 1) (by omega) hft1
        have HFT' := Lib.hid hft'
        have HMX' := Lib.hid hmx'
        have HNS0 : Hid ((stopsTo ps m').length = k + 1 ∧ fill ps most m' = fill ps most (m + 1) ∧ outK ps most m' 0 = outK ps most (m + 1) 0) := Lib.hid ⟨by rw [hst', HSU2.out, List.length_append, ← HKM.out]; rfl, hf', ho'⟩
        have hkk : k + 1 ≤ l := hlt
        clear hst' hf' hft' ho' hmx' hft1
        by_cases hc0 : c = 0
        · have hrz := HFZ.out hc0
          have HE : Hid (fill ps most (m + 1) = (1, most - q)) := Lib.hid (by rw [HFS.out, if_pos (by omega), hc0]; rfl)
          have HBF : Hid (bagF ps most (m : Int) = 0) := Lib.hid (by rw [bagF, Int.toNat_natCast, HE.out]; rfl)
          have HNS : Hid ((stopsTo ps m').length = k + 1 ∧ ((fill ps most m').1 - 1 = 0 ∧ lastW ps most m' = q) ∧ outK ps most m' 0 = outK ps most (m + 1) 0 ∧ True) := Lib.hid ⟨HNS0.out.1, ⟨by rw [HNS0.out.2.1, HE.out]; rfl, by rw [lastW, HNS0.out.2.1, HE.out, if_neg (by simp)]; simp only; omega⟩, HNS0.out.2.2, trivial⟩
          subst hc0
          have t2 : decide ((0 : Int) - 1 < 0) = true := by decide
          clear HE HNS0 hrz HFZ HLW HFS
          go_wp2_with fail
          go_loopw [12] (fun i wi => ∃ j : Nat, j ≤ n ∧ i = .int .i64 j ∧ wi.ownsRow w.heap.size 2 1 (.slice (some ⟨w.heap.size, 0, none⟩) n n) n ((outK ps most m j).map (Value.int .i64)) ∧ InFar (some ⟨ub, 0, none⟩) w1.heap.size wi (stopsL ps) ∧ Below w.heap.size w wi) (fun i _ => n - (intOf i).toNat)
          case atStart => exact ⟨0, Nat.zero_le _, rfl, HOW.out, HIN.out, HNX.out⟩
          case round =>
            obtain ⟨j, hj, rfl, hown, hin, hnx⟩ := hrel
            have HOW2 := Lib.hid hown
            have HIN2 := Lib.hid hin
            have HNX2 := Lib.hid hnx
            by_cases hlj : j < n
            · have hjp : j < ps.length := by have := HN.out; omega
              obtain ⟨b, hab, hc⟩ := HRD.out j hjp
              subst hab
              have hcb := (hc.below hnx j hjp).1
              have hqq := HOK.out j hjp
              unfold okQ at hqq
              obtain ⟨ub2, hub, _, hcu⟩ := hin k (by rw [HL.out]; exact hlt)
              obtain rfl : ub = ub2 := by simpa using hub
              have d0 := hcu k (by rw [HL.out]; exact hlt)
              rw [HST.out] at d0
              have e0 := own_cell hown j hlj
              have f0 := hown.frozenAt j
              obtain ⟨o, ho⟩ : ∃ o, (outK ps most m j).getD j 0 = o := ⟨_, rfl⟩
              rw [ho] at e0
              obtain ⟨x, hx⟩ : ∃ x, (ps.getD j (0, 0)).1 = x := ⟨_, rfl⟩
              rw [hx] at hcb hqq
              have hjn : (j : Int) < (n : Int) := by omega
              have hkl : (k : Int) < (l : Int) := by omega
              have hx1 := hqq.1
              have hx2 := hqq.2.1
              have HXX := Lib.hid hx
              clear hx ho hin hnx hc hcu hqq hub
              by_cases hxm : x = (m : Int)
              · subst hxm
                have S := own_store hown j (bagF ps most (m : Int))
                rw [outK_set most hjp HXX.out, HBF.out] at S
                have HS := Lib.hid S
                clear S hown
                go_wp2_with fail
                go_quiet (fail)
                go_wp2_with fail
                go_roundw
                case rel => exact ⟨j + 1, by omega, by go_num, HS.out, InFar.set (w := wr.drewN nq) HIN2.out _ _ hs1, (below_drewN HNX2.out _).setCell (Nat.le_refl _) _⟩
                case measure => simp [intOf]; omega
              · have HO3 := Lib.hid hown
                have hbe : (x == (m : Int)) = false := by simp [hxm]
                have HNO := Lib.hid (outK_no (ps := ps) most (m := m) (j := j) (by rw [HXX.out]; exact hxm))
                clear hown
                go_wp2_with fail
                go_quiet (fail)
                go_wp2_with fail
                go_roundw
                case rel => exact ⟨j + 1, by omega, by go_num, by rw [← HNO.out]; exact HO3.out, HIN2.out, below_drewN HNX2.out _⟩
                case measure => simp [intOf]; omega
            · have hjn : j = ps.length := by have := HN.out; omega
              have HO4 : Hid (wr.ownsRow w.heap.size 2 1 (.slice (some ⟨w.heap.size, 0, none⟩) n n) n ((outK ps most m' 0).map (Value.int .i64))) := Lib.hid (by
                rw [HNS.out.2.2.1, ← outK_next, ← hjn]
                exact hown)
              clear hjn hown hin hnx
              go_wp2_with fail
              go_roundw
              case rel => exact ⟨m', k + 1, hm'9, by have := HNS.out.1; omega, HNS.out.1.symm, by go_num, by rw [HNS.out.2.1.1], by rw [HNS.out.2.1.2], HFT'.out, HMX'.out, HO4.out, HIN2.out, HNX2.out⟩
              case measure => simp [intOf]; omega
        · have HLW2 : Hid (lw = most - r) := Lib.hid (by rw [HLW.out, if_neg hc0])
          have t2 : decide (c - 1 < 0) = false := decide_eq_false (by omega)
          by_cases h2 : r < q
          · have HE : Hid (fill ps most (m + 1) = (c + 1, most - q)) := Lib.hid (by rw [HFS.out, if_pos h2])
            have HBF : Hid (bagF ps most (m : Int) = c) := Lib.hid (by rw [bagF, Int.toNat_natCast, HE.out]; simp only; omega)
            have HNS : Hid ((stopsTo ps m').length = k + 1 ∧ ((fill ps most m').1 - 1 = c ∧ lastW ps most m' = q) ∧ outK ps most m' 0 = outK ps most (m + 1) 0 ∧ True) := Lib.hid ⟨HNS0.out.1, ⟨by rw [HNS0.out.2.1, HE.out]; simp only; omega, by rw [lastW, HNS0.out.2.1, HE.out, if_neg (by simp only; omega)]; simp only; omega⟩, HNS0.out.2.2, trivial⟩
            have t3 : decide (most < lw + q) = true := decide_eq_true (by have := HLW2.out; omega)
            clear HE HNS0 HFZ HLW HFS
            go_wp2_with fail
            go_loopw [12] (fun i wi => ∃ j : Nat, j ≤ n ∧ i = .int .i64 j ∧ wi.ownsRow w.heap.size 2 1 (.slice (some ⟨w.heap.size, 0, none⟩) n n) n ((outK ps most m j).map (Value.int .i64)) ∧ InFar (some ⟨ub, 0, none⟩) w1.heap.size wi (stopsL ps) ∧ Below w.heap.size w wi) (fun i _ => n - (intOf i).toNat)
            case atStart => exact ⟨0, Nat.zero_le _, rfl, HOW.out, HIN.out, HNX.out⟩
            case round =>
              obtain ⟨j, hj, rfl, hown, hin, hnx⟩ := hrel
              have HOW2 := Lib.hid hown
              have HIN2 := Lib.hid hin
              have HNX2 := Lib.hid hnx
              by_cases hlj : j < n
              · have hjp : j < ps.length := by have := HN.out; omega
                obtain ⟨b, hab, hc⟩ := HRD.out j hjp
                subst hab
                have hcb := (hc.below hnx j hjp).1
                have hqq := HOK.out j hjp
                unfold okQ at hqq
                obtain ⟨ub2, hub, _, hcu⟩ := hin k (by rw [HL.out]; exact hlt)
                obtain rfl : ub = ub2 := by simpa using hub
                have d0 := hcu k (by rw [HL.out]; exact hlt)
                rw [HST.out] at d0
                have e0 := own_cell hown j hlj
                have f0 := hown.frozenAt j
                obtain ⟨o, ho⟩ : ∃ o, (outK ps most m j).getD j 0 = o := ⟨_, rfl⟩
                rw [ho] at e0
                obtain ⟨x, hx⟩ : ∃ x, (ps.getD j (0, 0)).1 = x := ⟨_, rfl⟩
                rw [hx] at hcb hqq
                have hjn : (j : Int) < (n : Int) := by omega
                have hkl : (k : Int) < (l : Int) := by omega
                have hx1 := hqq.1
                have hx2 := hqq.2.1
                have HXX := Lib.hid hx
                clear hx ho hin hnx hc hcu hqq hub
                by_cases hxm : x = (m : Int)
                · subst hxm
                  have S := own_store hown j (bagF ps most (m : Int))
                  rw [outK_set most hjp HXX.out, HBF.out] at S
                  have HS := Lib.hid S
                  clear S hown
                  go_wp2_with fail
                  go_quiet (fail)
                  go_wp2_with fail
                  go_roundw
                  case rel => exact ⟨j + 1, by omega, by go_num, HS.out, InFar.set (w := wr.drewN nq) HIN2.out _ _ hs1, (below_drewN HNX2.out _).setCell (Nat.le_refl _) _⟩
                  case measure => simp [intOf]; omega
                · have HO3 := Lib.hid hown
                  have hbe : (x == (m : Int)) = false := by simp [hxm]
                  have HNO := Lib.hid (outK_no (ps := ps) most (m := m) (j := j) (by rw [HXX.out]; exact hxm))
                  clear hown
                  go_wp2_with fail
                  go_quiet (fail)
                  go_wp2_with fail
                  go_roundw
                  case rel => exact ⟨j + 1, by omega, by go_num, by rw [← HNO.out]; exact HO3.out, HIN2.out, below_drewN HNX2.out _⟩
                  case measure => simp [intOf]; omega
              · have hjn : j = ps.length := by have := HN.out; omega
                have HO4 : Hid (wr.ownsRow w.heap.size 2 1 (.slice (some ⟨w.heap.size, 0, none⟩) n n) n ((outK ps most m' 0).map (Value.int .i64))) := Lib.hid (by
                  rw [HNS.out.2.2.1, ← outK_next, ← hjn]
                  exact hown)
                clear hjn hown hin hnx
                go_wp2_with fail
                go_roundw
                case rel => exact ⟨m', k + 1, hm'9, by have := HNS.out.1; omega, HNS.out.1.symm, by go_num, by rw [HNS.out.2.1.1], by rw [HNS.out.2.1.2], HFT'.out, HMX'.out, HO4.out, HIN2.out, HNX2.out⟩
                case measure => simp [intOf]; omega
          · have HE : Hid (fill ps most (m + 1) = (c, r - q)) := Lib.hid (by rw [HFS.out, if_neg h2])
            have HBF : Hid (bagF ps most (m : Int) = c - 1) := Lib.hid (by rw [bagF, Int.toNat_natCast, HE.out])
            have HNS : Hid ((stopsTo ps m').length = k + 1 ∧ ((fill ps most m').1 - 1 = c - 1 ∧ lastW ps most m' = lw + q) ∧ outK ps most m' 0 = outK ps most (m + 1) 0 ∧ True) := Lib.hid ⟨HNS0.out.1, ⟨by rw [HNS0.out.2.1, HE.out], by rw [lastW, HNS0.out.2.1, HE.out, if_neg hc0]; have := HLW2.out; simp only; omega⟩, HNS0.out.2.2, trivial⟩
            have t3 : decide (most < lw + q) = false := decide_eq_false (by have := HLW2.out; omega)
            clear HE HNS0 HFZ HLW HFS
            go_wp2_with fail
            go_loopw [12] (fun i wi => ∃ j : Nat, j ≤ n ∧ i = .int .i64 j ∧ wi.ownsRow w.heap.size 2 1 (.slice (some ⟨w.heap.size, 0, none⟩) n n) n ((outK ps most m j).map (Value.int .i64)) ∧ InFar (some ⟨ub, 0, none⟩) w1.heap.size wi (stopsL ps) ∧ Below w.heap.size w wi) (fun i _ => n - (intOf i).toNat)
            case atStart => exact ⟨0, Nat.zero_le _, rfl, HOW.out, HIN.out, HNX.out⟩
            case round =>
              obtain ⟨j, hj, rfl, hown, hin, hnx⟩ := hrel
              have HOW2 := Lib.hid hown
              have HIN2 := Lib.hid hin
              have HNX2 := Lib.hid hnx
              by_cases hlj : j < n
              · have hjp : j < ps.length := by have := HN.out; omega
                obtain ⟨b, hab, hc⟩ := HRD.out j hjp
                subst hab
                have hcb := (hc.below hnx j hjp).1
                have hqq := HOK.out j hjp
                unfold okQ at hqq
                obtain ⟨ub2, hub, _, hcu⟩ := hin k (by rw [HL.out]; exact hlt)
                obtain rfl : ub = ub2 := by simpa using hub
                have d0 := hcu k (by rw [HL.out]; exact hlt)
                rw [HST.out] at d0
                have e0 := own_cell hown j hlj
                have f0 := hown.frozenAt j
                obtain ⟨o, ho⟩ : ∃ o, (outK ps most m j).getD j 0 = o := ⟨_, rfl⟩
                rw [ho] at e0
                obtain ⟨x, hx⟩ : ∃ x, (ps.getD j (0, 0)).1 = x := ⟨_, rfl⟩
                rw [hx] at hcb hqq
                have hjn : (j : Int) < (n : Int) := by omega
                have hkl : (k : Int) < (l : Int) := by omega
                have hx1 := hqq.1
                have hx2 := hqq.2.1
                have HXX := Lib.hid hx
                clear hx ho hin hnx hc hcu hqq hub
                by_cases hxm : x = (m : Int)
                · subst hxm
                  have S := own_store hown j (bagF ps most (m : Int))
                  rw [outK_set most hjp HXX.out, HBF.out] at S
                  have HS := Lib.hid S
                  clear S hown
                  go_wp2_with fail
                  go_quiet (fail)
                  go_wp2_with fail
                  go_roundw
                  case rel => exact ⟨j + 1, by omega, by go_num, HS.out, InFar.set (w := wr.drewN nq) HIN2.out _ _ hs1, (below_drewN HNX2.out _).setCell (Nat.le_refl _) _⟩
                  case measure => simp [intOf]; omega
                · have HO3 := Lib.hid hown
                  have hbe : (x == (m : Int)) = false := by simp [hxm]
                  have HNO := Lib.hid (outK_no (ps := ps) most (m := m) (j := j) (by rw [HXX.out]; exact hxm))
                  clear hown
                  go_wp2_with fail
                  go_quiet (fail)
                  go_wp2_with fail
                  go_roundw
                  case rel => exact ⟨j + 1, by omega, by go_num, by rw [← HNO.out]; exact HO3.out, HIN2.out, below_drewN HNX2.out _⟩
                  case measure => simp [intOf]; omega
              · have hjn : j = ps.length := by have := HN.out; omega
                have HO4 : Hid (wr.ownsRow w.heap.size 2 1 (.slice (some ⟨w.heap.size, 0, none⟩) n n) n ((outK ps most m' 0).map (Value.int .i64))) := Lib.hid (by
                  rw [HNS.out.2.2.1, ← outK_next, ← hjn]
                  exact hown)
                clear hjn hown hin hnx
                go_wp2_with fail
                go_roundw
                case rel => exact ⟨m', k + 1, hm'9, by have := HNS.out.1; omega, HNS.out.1.symm, by go_num, by rw [HNS.out.2.1.1], by rw [HNS.out.2.1.2], HFT'.out, HMX'.out, HO4.out, HIN2.out, HNX2.out⟩
                case measure => simp [intOf]; omega
      · have t1 : decide (most < q) = true := decide_eq_true (by omega)
        have HNF : Hid (¬ FitTo ps most 9) := Lib.hid (fun h => h1 (by have := h m hm8; rw [HQ.out] at this; exact this))
        go_wp2_with fail
        go_ret2
        exact .inr ⟨HNF.out, _, rfl, World.ownsRow_made w5 #[] 0 HNX.out.size (Nat.zero_le _) rfl, HNX.out.alloc HNX.out.size _⟩
    · have hm9e : m = 9 := by
        rcases hmx with h | h
        · exact h
        · by_cases e : m = 9
          · exact e
          · have := (stops_at (by omega) h).2
            rw [HL.out] at this
            omega
      subst hm9e
      have HO5 : Hid (OwnI w.heap.size wr (.slice (some ⟨w.heap.size, 0, none⟩) n n) (splitL ps most)) := Lib.hid (by
        rw [outK_all HOK.out] at hown
        unfold OwnI
        rw [splitL_len, HN.out]
        exact hown)
      have hfb := fill_bd HOK.out H10.out most (by omega) 9 hft
      obtain ⟨c, hc⟩ : ∃ c, (fill ps most 9).1 = c := ⟨_, rfl⟩
      have HC := Lib.hid hc
      rw [hc] at hfb ⊢
      have hc1 := hfb.1
      have hc2 := hfb.2.1
      clear hc hfb hft hmx hown hin hnx hkm
      go_wp2_with fail
      go_ret2
      obtain rfl := HC.out
      exact .inl ⟨HFT.out, _, by simp, HO5.out, HNXX.out⟩
end Go.Proofs.Ytadhoodddedjjaa
