/-
  Contracts of impl.reachWith, spec.l01Reach and both ReachOf.
-/
import Derived.Test.YtmhjckbndhcbmaaGaps
namespace Go.Proofs.Ytmhjckbndhcbmaa
open Go Go.RowKit
set_option linter.unusedVariables false

/-- All amounts below a are paid with at most s stamps. -/
def GoodTo (xs : List Int) (s a : Nat) : Prop := ∀ b, b < a → 0 ≤ fewV xs b ∧ fewV xs b ≤ s
def IsReach (xs : List Int) (s r : Nat) : Prop := GoodTo xs s (r + 1) ∧ ¬ (0 ≤ fewV xs (r + 1) ∧ fewV xs (r + 1) ≤ s)
theorem IsReach.unique {xs : List Int} {s r t : Nat} (h : IsReach xs s r) (g : IsReach xs s t) : r = t := by
  by_cases h1 : r < t
  · exact absurd (g.1 (r + 1) (by omega)) h.2
  · by_cases h2 : t < r
    · exact absurd (h.1 (t + 1) (by omega)) g.2
    · omega
/-- The values of a reach: 1 to 500, in whatever order. -/
def Vals (xs : List Int) : Prop := ∀ v ∈ xs, 1 ≤ v ∧ v ≤ 500
theorem Vals.pos {xs : List Int} (h : Vals xs) : ∀ v ∈ xs, 1 ≤ v := fun v hv => (h v hv).1
theorem Vals.get {xs : List Int} (h : Vals xs) (i : Nat) (hi : i < xs.length) : 1 ≤ xs.getD i 0 ∧ xs.getD i 0 ≤ 500 := by
  have := h (xs[i]) (List.getElem_mem _)
  simpa [List.getD, hi] using this
theorem vals_of_rise {xs : List Int} (h : Rise xs xs.length) : Vals xs := by
  intro v hv
  obtain ⟨i, hi, rfl⟩ := List.getElem_of_mem hv
  have := rise_bounds h hi
  simpa [List.getD, hi] using this
theorem pays_500 {xs : List Int} (h : Vals xs) {a k : Nat} (hp : Pays xs a k) : a ≤ 500 * k := by
  induction hp with
  | zero => omega
  | step v a k hv hp ih => have := h v hv; omega
theorem few_500 {xs : List Int} (h : Vals xs) {a s : Nat} (h0 : 0 ≤ fewV xs a) (h1 : fewV xs a ≤ s) : a ≤ 500 * s := by
  rcases fewV_few xs h.pos a with ⟨f, _⟩ | ⟨_, f, _⟩
  · omega
  · have := pays_500 h f; omega
theorem good_one (xs : List Int) (s : Nat) : GoodTo xs s 1 := fun b hb => by
  obtain rfl : b = 0 := by omega
  simp [fewV, fewAt]
theorem GoodTo.succ {xs : List Int} {s a : Nat} (h : GoodTo xs s a) (h0 : 0 ≤ fewV xs a) (h1 : fewV xs a ≤ s) : GoodTo xs s (a + 1) := fun b hb => by
  by_cases e : b = a
  · subst e; exact ⟨h0, h1⟩
  · exact h b (by omega)

/-- 'never' where there is none. -/
def lowI (r : Int) : Int := if r < 0 then 1073741824 else r
theorem lowI_neg {r : Int} (h : r < 0) : lowI r = 1073741824 := if_pos h
theorem lowI_nonneg {r : Int} (h : 0 ≤ r) : lowI r = r := if_neg (by omega)

/-- One value more, the amount behind it being payable. -/
theorem fewCur_hit {xs : List Int} {a i v : Nat} {p q : Int} (hi : i < xs.length) (hv : xs.getD i 0 = (v : Int)) (hva : v ≤ a) (hv1 : 1 ≤ v) (hp : fewCur xs a i = p) (hq : fewV xs (a - v) = q) (h0 : 0 ≤ q) :
    fewCur xs a (i + 1) = if p < 0 ∨ q + 1 < p then q + 1 else p := by
  have hg := fewTab_get xs a (a - v) (by omega)
  rw [fewCur_succ xs a i hi, hp, hv]
  unfold fewPick fewCand
  rw [Int.toNat_natCast, hg, hq, if_pos ⟨hva, h0⟩]
theorem fewCur_miss {xs : List Int} {a i v : Nat} {p : Int} (hi : i < xs.length) (hv : xs.getD i 0 = (v : Int)) (hva : ¬ v ≤ a) (hp : fewCur xs a i = p) : fewCur xs a (i + 1) = p := by
  rw [fewCur_succ xs a i hi, hp, hv]
  unfold fewPick fewCand
  rw [Int.toNat_natCast, if_neg (by omega)]

def ReachPost (xs : List Int) (s : Nat) (w : World) (e : Ending) (w' : World) : Prop := ∃ r : Nat, e = .returned (.int .i64 r) ∧ IsReach xs s r ∧ Below w.heap.size w w'

set_option maxHeartbeats 8000000 in
set_option maxRecDepth 100000 in
theorem ireach_row (b len cap : Nat) (xs : List Int) (s : Nat) (hl : xs.length = len) (h8 : len ≤ 8) (hv : Vals xs) (hs : s ≤ 12) (w : World) (hc : Cells w b xs) :
    Calls Try.prog 34 #[.slice (some ⟨b, 0, none⟩) len cap, .int .i64 s] w (ReachPost xs s w) := by
  obtain ⟨i0, hi, hz0, hz1, hz2⟩ := info_parts info_i64
  have HL := Lib.hid hl
  have HV := Lib.hid hv
  have HOA : Hid ((w.alloc (.cells #[.int .i64 0] 2)).ownsRow w.heap.size 2 1 (.slice (some ⟨w.heap.size, 0, none⟩) 1 1) 1 ((fewTab xs 1).map (Value.int .i64))) := Lib.hid (World.ownsRow_lit w #[.int .i64 0] 1 (Nat.le_refl _) (by unfold maxLen; omega) rfl)
  have hms : 0 ≤ (s : Int) * 500 := by omega
  have hms2 : (s : Int) * 500 ≤ 6000 := by omega
  clear hl hv
  go_enter Try.func34, Try.ntmps34
  go_wp2_with fail
  go_loopw [6, 7] (fun g i wr => ∃ a : Nat, 1 ≤ a ∧ a ≤ 500 * s + 1 ∧ i = .int .i64 a ∧ wr.ownsRow w.heap.size 2 1 g a ((fewTab xs a).map (Value.int .i64)) ∧ GoodTo xs s a ∧ Below w.heap.size w wr) (fun _ i _ => 500 * s + 1 - (intOf i).toNat)
  case atStart => exact ⟨1, Nat.le_refl _, by omega, rfl, HOA.out, good_one xs s, (Below.refl _ _).alloc (Nat.le_refl _) _⟩
  case round =>
    obtain ⟨a, ha1, ha, rfl, hown, hgood, hnx⟩ := hrel
    have HB := Lib.hid hnx
    have HG := Lib.hid hgood
    have HO := Lib.hid hown
    have hwr : w.heap.size ≤ wr.heap.size := hnx.size
    by_cases hlt : a ≤ 500 * s
    · rcases OwnI.cases (OwnI.of_row hown) with ⟨_, h⟩ | ⟨g, gc, hg, hg1, hg2, hg3, hg4, hg5, hg6⟩
      · have := fewTab_length xs a; rw [h] at this; simp at this; omega
      · rw [fewTab_length] at hg hg3
        subst hg
        have HG5 := Lib.hid hg5
        have HCX : Hid (Cells wr b xs) := Lib.hid (by
          intro j hj
          rw [hnx.cell (p := ⟨b, j, none⟩) (World.block_lt_of_cell? w _ (hc j hj))]
          exact hc j hj)
        clear hown hgood hnx hg5 hg6
        go_wp2_with fail
        go_loop [8, 21] (fun l i => ∃ j : Nat, j ≤ len ∧ i = .int .i64 j ∧ l = .int .i64 (lowI (fewCur xs a j))) (fun _ i => len - (intOf i).toNat)
        case atStart => exact ⟨0, Nat.zero_le _, rfl, rfl⟩
        case round =>
          obtain ⟨j, hj, rfl, rfl⟩ := hrel
          by_cases hlt2 : j < len
          · have cx := HCX.out j (by have := HL.out; omega)
            have hbd := HV.out.get j (by have := HL.out; omega)
            obtain ⟨v, hxv⟩ : ∃ v : Nat, xs.getD j 0 = (v : Int) := ⟨(xs.getD j 0).toNat, by omega⟩
            rw [hxv] at cx hbd
            have hv1 : 1 ≤ v := by omega
            have hv5 : v ≤ 500 := by omega
            have hcb := fewCur_bounds HV.out.pos a j (by have := HL.out; omega)
            obtain ⟨p, hp⟩ : ∃ p, fewCur xs a j = p := ⟨_, rfl⟩
            rw [hp] at hcb
            rw [hp]
            by_cases hva : v ≤ a
            · have hq0 := HG.out (a - v) (by omega)
              have c2 := HG5.out (a - v) (by rw [fewTab_length]; omega)
              rw [fewTab_get _ _ _ (by omega)] at c2
              obtain ⟨q, hq⟩ : ∃ q, fewV xs (a - v) = q := ⟨_, rfl⟩
              rw [hq] at c2 hq0
              have hh := fewCur_hit (by have := HL.out; omega) hxv hva hv1 hp hq hq0.1
              have hq1 := hq0.1
              have hq2 := hq0.2
              have HN : Hid (lowI (fewCur xs a (j + 1)) = if q + 1 < lowI p then q + 1 else lowI p) := Lib.hid (by
                rw [hh]
                by_cases hpn : p < 0
                · rw [if_pos (.inl hpn), lowI_neg hpn, if_pos (by omega), lowI_nonneg (by omega)]
                · rw [lowI_nonneg (by omega : 0 ≤ p)]
                  by_cases hlt3 : q + 1 < p
                  · rw [if_pos (.inr hlt3), if_pos (by omega), lowI_nonneg (by omega)]
                  · rw [if_neg (by omega), if_neg (by omega), lowI_nonneg (by omega)])
              have i1 : ((a : Int) - (v : Int)).toNat = a - v := by omega
              have i2 : 0 ≤ (a : Int) - (v : Int) := by omega
              obtain ⟨lp, hlp⟩ : ∃ lp, lowI p = lp := ⟨_, rfl⟩
              rw [hlp] at HN
              rw [hlp]
              have HLP := Lib.hid hlp
              clear hxv hp hq hh hcb hq0 hlp hbd
              go_wp2_with fail
              go_round
              case rel => exact ⟨j + 1, by omega, by go_num, by rw [HN.out]⟩
              case measure => simp [intOf]; omega
            · have HN := Lib.hid (fewCur_miss (by have := HL.out; omega) hxv hva hp)
              clear hxv hp hcb hbd
              go_wp2_with fail
              go_round
              case rel => exact ⟨j + 1, by omega, by go_num, by rw [HN.out]⟩
              case measure => simp [intOf]; omega
          · have hj' : j = xs.length := by have := HL.out; omega
            have hfb := fewV_bounds HV.out.pos a
            have HJ : Hid (lowI (fewCur xs a j) = lowI (fewV xs a)) := Lib.hid (by rw [hj', fewCur_all xs a ha1])
            obtain ⟨f, hf⟩ : ∃ f, fewV xs a = f := ⟨_, rfl⟩
            rw [HJ.out, hf]
            rw [hf] at hfb
            have HF := Lib.hid hf
            clear hj' hf
            by_cases hbad : 0 ≤ f ∧ f ≤ s
            · obtain ⟨hf0, hf1⟩ := hbad
              rw [lowI_nonneg hf0]
              have HA : Hid (fewTab xs (a + 1) = fewTab xs a ++ [f]) := Lib.hid (by rw [← HF.out]; rfl)
              have t1 : decide ((s : Int) < f) = false := decide_eq_false (by omega)
              go_wp2_with (at_builtin; refine wpList_append_own _ rfl _ _ 22 rfl w.heap.size 2 i0 (.int .i64 0) 1 8 Try.underlying22 hi hz0 hz1 hz2 rfl (by decide) _ _ _ rfl (HO.out.alloc _) ⟨wr.heap.size, 0, none⟩ 1 1 [.int .i64 f] rfl rfl (cell_one_new _ _ _) (ints_oneCell .i64 [f]) (by unfold maxLen; omega) (by omega) (by simp; omega) ?_)
              intro v' w3 hown' hgrow _
              have HO' : Hid (w3.ownsRow w.heap.size 2 1 v' (a + 1) ((fewTab xs (a + 1)).map (Value.int .i64))) := Lib.hid (by
                rw [HA.out, List.map_append]; exact hown')
              have HB' : Hid (Below w.heap.size w w3) := Lib.hid ((HB.out.alloc hwr _).grown hgrow (by simp; omega) (fun j hj => (HO.out.lt j hj).1))
              have HG' : Hid (GoodTo xs s (a + 1)) := Lib.hid (HG.out.succ (by rw [HF.out]; exact hf0) (by rw [HF.out]; exact hf1))
              clear hown' hgrow
              go_wp2
              go_roundw
              case rel => exact ⟨a + 1, by omega, by omega, by go_num, HO'.out, HG'.out, HB'.out⟩
              case measure => simp [intOf]; omega
            · have hlow : (s : Int) < lowI f := by
                by_cases h : f < 0
                · rw [lowI_neg h]; omega
                · rw [lowI_nonneg (by omega)]; omega
              obtain ⟨lf, hlf⟩ : ∃ lf, lowI f = lf := ⟨_, rfl⟩
              rw [hlf] at hlow ⊢
              have HR : Hid (IsReach xs s (a - 1)) := Lib.hid (by
                have e : a - 1 + 1 = a := by omega
                refine ⟨by rw [e]; exact HG.out, ?_⟩
                rw [e, HF.out]; exact hbad)
              clear hlf hbad
              go_wp2
              go_ret
              refine ⟨a - 1, ?_, HR.out, HB.out⟩
              exact ret_int (by omega)
    · have ha' : a = 500 * s + 1 := by omega
      have HR : Hid (IsReach xs s (500 * s)) := Lib.hid ⟨by rw [ha'] at hgood; exact hgood, fun h => by
        have := few_500 HV.out h.1 h.2; omega⟩
      clear hown hgood hnx ha'
      go_wp2
      go_ret
      refine ⟨500 * s, ?_, HR.out, HB.out⟩
      exact ret_int (by omega)

set_option maxHeartbeats 8000000 in
set_option maxRecDepth 100000 in
theorem sreach_row (b len cap : Nat) (xs : List Int) (s : Nat) (hl : xs.length = len) (h8 : len ≤ 8) (hv : Vals xs) (hs : s ≤ 12) (w : World) (hc : Cells w b xs) :
    Calls Try.prog 31 #[.slice (some ⟨b, 0, none⟩) len cap, .int .i64 s] w (ReachPost xs s w) := by
  obtain ⟨i0, hi, hz0, hz1, hz2⟩ := info_parts info_i64
  have HL := Lib.hid hl
  have HV := Lib.hid hv
  have HOA : Hid ((w.alloc (.cells #[.int .i64 0] 2)).ownsRow w.heap.size 2 1 (.slice (some ⟨w.heap.size, 0, none⟩) 1 1) 1 ((fewTab xs 1).map (Value.int .i64))) := Lib.hid (World.ownsRow_lit w #[.int .i64 0] 1 (Nat.le_refl _) (by unfold maxLen; omega) rfl)
  clear hl hv
  go_enter Try.func31, Try.ntmps31
  go_wp2_with fail
  go_loopw [5, 6] (fun g i wr => ∃ a : Nat, 1 ≤ a ∧ i = .int .i64 a ∧ wr.ownsRow w.heap.size 2 1 g a ((fewTab xs a).map (Value.int .i64)) ∧ GoodTo xs s a ∧ Below w.heap.size w wr) (fun _ i _ => 500 * s + 2 - (intOf i).toNat)
  case atStart => exact ⟨1, Nat.le_refl _, rfl, HOA.out, good_one xs s, (Below.refl _ _).alloc (Nat.le_refl _) _⟩
  case round =>
    obtain ⟨a, ha1, rfl, hown, hgood, hnx⟩ := hrel
    have HB := Lib.hid hnx
    have HG := Lib.hid hgood
    have HO := Lib.hid hown
    have hwr : w.heap.size ≤ wr.heap.size := hnx.size
    have ha : a ≤ 500 * s + 1 := by
      have h := hgood (a - 1) (by omega)
      have := few_500 HV.out h.1 h.2
      omega
    rcases OwnI.cases (OwnI.of_row hown) with ⟨_, h⟩ | ⟨g, gc, hg, hg1, hg2, hg3, hg4, hg5, hg6⟩
    · have := fewTab_length xs a; rw [h] at this; simp at this; omega
    · rw [fewTab_length] at hg hg3
      subst hg
      have HG5 := Lib.hid hg5
      have HCX : Hid (Cells wr b xs) := Lib.hid (by
        intro j hj
        rw [hnx.cell (p := ⟨b, j, none⟩) (World.block_lt_of_cell? w _ (hc j hj))]
        exact hc j hj)
      clear hown hgood hnx hg5 hg6
      go_wp2_with fail
      go_loop [7, 8] (fun l i => ∃ j : Nat, j ≤ len ∧ i = .int .i64 j ∧ l = .int .i64 (fewCur xs a j)) (fun _ i => len - (intOf i).toNat)
      case atStart => exact ⟨0, Nat.zero_le _, rfl, rfl⟩
      case round =>
        obtain ⟨j, hj, rfl, rfl⟩ := hrel
        by_cases hlt2 : j < len
        · have cx := HCX.out j (by have := HL.out; omega)
          have hbd := HV.out.get j (by have := HL.out; omega)
          obtain ⟨v, hxv⟩ : ∃ v : Nat, xs.getD j 0 = (v : Int) := ⟨(xs.getD j 0).toNat, by omega⟩
          rw [hxv] at cx hbd
          have hv1 : 1 ≤ v := by omega
          have hv5 : v ≤ 500 := by omega
          have hcb := fewCur_bounds HV.out.pos a j (by have := HL.out; omega)
          obtain ⟨p, hp⟩ : ∃ p, fewCur xs a j = p := ⟨_, rfl⟩
          rw [hp] at hcb
          rw [hp]
          have hp1 := hcb.1
          have hp2 := hcb.2
          by_cases hva : v ≤ a
          · have hq0 := HG.out (a - v) (by omega)
            have c2 := HG5.out (a - v) (by rw [fewTab_length]; omega)
            rw [fewTab_get _ _ _ (by omega)] at c2
            obtain ⟨q, hq⟩ : ∃ q, fewV xs (a - v) = q := ⟨_, rfl⟩
            rw [hq] at c2 hq0
            have hh := fewCur_hit (by have := HL.out; omega) hxv hva hv1 hp hq hq0.1
            have hq1 := hq0.1
            have hq2 := hq0.2
            have t1 : decide (v ≤ a) = true := decide_eq_true hva
            have t2 : decide (0 ≤ q) = true := decide_eq_true hq1
            have i1 : ((a : Int) - (v : Int)).toNat = a - v := by omega
            have i2 : 0 ≤ (a : Int) - (v : Int) := by omega
            clear hxv hp hq hcb hq0 hbd
            by_cases hcur : p < 0 ∨ q + 1 < p
            · rw [if_pos hcur] at hh
              have HN := Lib.hid hh
              clear hh
              by_cases hpn : p < 0
              · have t3 : decide (p < 0) = true := decide_eq_true hpn
                clear hcur
                go_wp2_with fail
                go_round
                case rel => exact ⟨j + 1, by omega, by go_num, by rw [HN.out]⟩
                case measure => simp [intOf]; omega
              · have hcur2 : q + 1 < p := by omega
                have t3 : decide (p < 0) = false := decide_eq_false hpn
                have t4 : decide (q + 1 < p) = true := decide_eq_true hcur2
                clear hcur
                go_wp2_with fail
                go_round
                case rel => exact ⟨j + 1, by omega, by go_num, by rw [HN.out]⟩
                case measure => simp [intOf]; omega
            · rw [if_neg hcur] at hh
              have HN := Lib.hid hh
              have t3 : decide (p < 0) = false := decide_eq_false (by omega)
              have t4 : decide (q + 1 < p) = false := decide_eq_false (by omega)
              have hq3 : p ≤ q + 1 := by omega
              have hp3 : 0 ≤ p := by omega
              clear hcur hh
              go_wp2_with fail
              go_round
              case rel => exact ⟨j + 1, by omega, by go_num, by rw [HN.out]⟩
              case measure => simp [intOf]; omega
          · have HN := Lib.hid (fewCur_miss (by have := HL.out; omega) hxv hva hp)
            have t1 : decide (v ≤ a) = false := decide_eq_false hva
            clear hxv hp hcb hbd
            go_wp2_with fail
            go_round
            case rel => exact ⟨j + 1, by omega, by go_num, by rw [HN.out]⟩
            case measure => simp [intOf]; omega
        · have hj' : j = xs.length := by have := HL.out; omega
          have hfb := fewV_bounds HV.out.pos a
          have HJ : Hid (fewCur xs a j = fewV xs a) := Lib.hid (by rw [hj', fewCur_all xs a ha1])
          obtain ⟨f, hf⟩ : ∃ f, fewV xs a = f := ⟨_, rfl⟩
          rw [HJ.out, hf]
          rw [hf] at hfb
          have HF := Lib.hid hf
          clear hj' hf
          by_cases hbad : 0 ≤ f ∧ f ≤ s
          · obtain ⟨hf0, hf1⟩ := hbad
            have HA : Hid (fewTab xs (a + 1) = fewTab xs a ++ [f]) := Lib.hid (by rw [← HF.out]; rfl)
            have t1 : decide (f < 0) = false := decide_eq_false (by omega)
            have t2 : decide ((s : Int) < f) = false := decide_eq_false (by omega)
            have ha6 : a ≤ 500 * s := by have := few_500 HV.out (by rw [HF.out]; exact hf0) (by rw [HF.out]; exact hf1); omega
            go_wp2_with (at_builtin; refine wpList_append_own _ rfl _ _ 22 rfl w.heap.size 2 i0 (.int .i64 0) 1 8 Try.underlying22 hi hz0 hz1 hz2 rfl (by decide) _ _ _ rfl (HO.out.alloc _) ⟨wr.heap.size, 0, none⟩ 1 1 [.int .i64 f] rfl rfl (cell_one_new _ _ _) (ints_oneCell .i64 [f]) (by unfold maxLen; omega) (by omega) (by simp; omega) ?_)
            intro v' w3 hown' hgrow _
            have HO' : Hid (w3.ownsRow w.heap.size 2 1 v' (a + 1) ((fewTab xs (a + 1)).map (Value.int .i64))) := Lib.hid (by
              rw [HA.out, List.map_append]; exact hown')
            have HB' : Hid (Below w.heap.size w w3) := Lib.hid ((HB.out.alloc hwr _).grown hgrow (by simp; omega) (fun j hj => (HO.out.lt j hj).1))
            have HG' : Hid (GoodTo xs s (a + 1)) := Lib.hid (HG.out.succ (by rw [HF.out]; exact hf0) (by rw [HF.out]; exact hf1))
            clear hown' hgrow
            go_wp2
            go_roundw
            case rel => exact ⟨a + 1, by omega, by go_num, HO'.out, HG'.out, HB'.out⟩
            case measure => simp [intOf]; omega
          · have HR : Hid (IsReach xs s (a - 1)) := Lib.hid (by
              have e : a - 1 + 1 = a := by omega
              refine ⟨by rw [e]; exact HG.out, ?_⟩
              rw [e, HF.out]; exact hbad)
            by_cases hfn : f < 0
            · have t1 : decide (f < 0) = true := decide_eq_true hfn
              clear hbad
              go_wp2
              go_ret
              refine ⟨a - 1, ?_, HR.out, HB.out⟩
              exact ret_int (by omega)
            · have t1 : decide (f < 0) = false := decide_eq_false hfn
              have hfs : (s : Int) < f := by omega
              have t2 : decide ((s : Int) < f) = true := decide_eq_true hfs
              clear hbad
              go_wp2
              go_ret
              refine ⟨a - 1, ?_, HR.out, HB.out⟩
              exact ret_int (by omega)

/-! ### ReachOf -/
theorem stamps_any (n : Int) (w : World) :
    Calls Try.prog 29 #[.int .i64 n] w fun e w' => e = .returned (.bool (inB n 0 12)) ∧ w = w' := by
  go_enter Try.func29, Try.ntmps29
  go_wp2_with (go_at_call 39; refine (in_any _ _ _ _).mono ?_; rintro e w2 ⟨rfl, rfl⟩)
  go_ret
  exact ⟨rfl, rfl⟩

theorem checkst_any (v : Value) (xs : List Int) (n : Int) (w : World) (hv : ReadsI w v xs) (hx : xs.length ≤ 1048576) :
    Calls Try.prog 32 #[v, .int .i64 n] w fun e w' => e = .returned (.int .i64 (codeOf xs (inB n 0 12))) ∧ w = w' := by
  cases hvl : vldB xs
  · go_enter Try.func32, Try.ntmps32
    go_wp2_with (go_at_call 64; refine (ivalid_any _ xs _ hv hx).mono ?_; rintro e w2 ⟨rfl, rfl⟩)
    go_ret
    exact ⟨(ret_int (codeOf_invalid (by assumption))).symm, rfl⟩
  · by_cases h1 : n < 0
    · have HK : Hid (codeOf xs (inB n 0 12) = 2) := Lib.hid (codeOf_range hvl (inB_false (by omega)))
      have t1 : decide (n < 0) = true := decide_eq_true h1
      go_enter Try.func32, Try.ntmps32
      go_wp2_with (go_at_call 64; refine (ivalid_any _ xs _ hv hx).mono ?_; rintro e w2 ⟨rfl, rfl⟩)
      go_ret
      exact ⟨(ret_int HK.out).symm, rfl⟩
    · have t1 : decide (n < 0) = false := decide_eq_false h1
      by_cases h2 : 12 < n
      · have HK : Hid (codeOf xs (inB n 0 12) = 2) := Lib.hid (codeOf_range hvl (inB_false (by omega)))
        have t2 : decide (12 < n) = true := decide_eq_true h2
        go_enter Try.func32, Try.ntmps32
        go_wp2_with (go_at_call 64; refine (ivalid_any _ xs _ hv hx).mono ?_; rintro e w2 ⟨rfl, rfl⟩)
        go_ret
        exact ⟨(ret_int HK.out).symm, rfl⟩
      · have HK : Hid (codeOf xs (inB n 0 12) = 0) := Lib.hid (codeOf_ok hvl (inB_true (by omega)))
        have t2 : decide (12 < n) = false := decide_eq_false h2
        go_enter Try.func32, Try.ntmps32
        go_wp2_with (go_at_call 64; refine (ivalid_any _ xs _ hv hx).mono ?_; rintro e w2 ⟨rfl, rfl⟩)
        go_ret
        exact ⟨(ret_int HK.out).symm, rfl⟩

theorem code_stamps {xs : List Int} {n : Int} (h : codeOf xs (inB n 0 12) = 0) : 1 ≤ xs.length ∧ xs.length ≤ 8 ∧ Rise xs xs.length ∧ 0 ≤ n ∧ n ≤ 12 := by
  obtain ⟨h1, h2⟩ := codeOf_zero h
  have h3 := vldB_spec h1
  have h4 : 0 ≤ n ∧ n ≤ 12 := of_decide_eq_true h2
  exact ⟨h3.1, h3.2.1, h3.2.2, h4.1, h4.2⟩
open Classical in
noncomputable def reachRes (xs : List Int) (n : Int) : Int := if h : codeOf xs (inB n 0 12) = 0 ∧ ∃ r, IsReach xs n.toNat r then ((Classical.choose h.2 : Nat) : Int) else 0
theorem reachRes_ok {xs : List Int} {n : Nat} {r : Nat} (h : codeOf xs (inB (n : Int) 0 12) = 0) (g : IsReach xs n r) : reachRes xs (n : Int) = r := by
  have hx : codeOf xs (inB (n : Int) 0 12) = 0 ∧ ∃ r, IsReach xs (n : Int).toNat r := ⟨h, r, by simpa using g⟩
  unfold reachRes
  rw [dif_pos hx]
  have h1 : IsReach xs (n : Int).toNat (Classical.choose hx.2) := Classical.choose_spec hx.2
  have h2 : IsReach xs (n : Int).toNat r := by rw [Int.toNat_natCast]; exact g
  exact congrArg _ (h1.unique h2)
theorem reachRes_not {xs : List Int} {n : Int} (h : codeOf xs (inB n 0 12) ≠ 0) : reachRes xs n = 0 := by
  unfold reachRes
  rw [dif_neg (fun k => h k.1)]

end Go.Proofs.Ytmhjckbndhcbmaa
