/-
  The contract of spec.l01Fewest: the table of the fewest stamps.
-/
import Derived.Test.YtgbckddojfajjaaToI
import Derived.Test.YtgbckddojfajjaaWayPos
namespace Go.Proofs.Ytgbckddojfajjaa
open Go Go.RowKit
set_option linter.unusedVariables false

theorem Pays.le {xs : List Int} (hx : ∀ v ∈ xs, 1 ≤ v) {a k : Nat} (h : Pays xs a k) : k ≤ a := by
  induction h with
  | zero => exact Nat.le_refl _
  | step v a k hv h ih => have := hx v hv; omega
theorem fewV_bounds {xs : List Int} (hx : ∀ v ∈ xs, 1 ≤ v) (a : Nat) : -1 ≤ fewV xs a ∧ fewV xs a ≤ a := by
  rcases fewV_few xs hx a with ⟨h, _⟩ | ⟨h, h2, _⟩
  · omega
  · have := h2.le hx; omega

/-- The current entry behind i values. -/
def fewCur (xs : List Int) (a i : Nat) : Int := (xs.take i).foldl (fewPick (fewTab xs a) a) (-1)
theorem fewCur_succ (xs : List Int) (a i : Nat) (h : i < xs.length) : fewCur xs a (i + 1) = fewPick (fewTab xs a) a (fewCur xs a i) (xs.getD i 0) := by
  unfold fewCur
  rw [List.take_succ_eq_append_getElem h, List.foldl_append]
  simp [List.getD, h]
theorem fewCur_all (xs : List Int) (a : Nat) (h : 1 ≤ a) : fewCur xs a xs.length = fewV xs a := by
  unfold fewCur fewV fewAt
  rw [List.take_length, if_neg (by omega)]
theorem fewCur_bounds {xs : List Int} (hx : ∀ v ∈ xs, 1 ≤ v) (a i : Nat) (hi : i ≤ xs.length) : -1 ≤ fewCur xs a i ∧ fewCur xs a i ≤ a + 1 := by
  induction i with
  | zero => simp [fewCur]; omega
  | succ i ih =>
    rw [fewCur_succ _ _ _ (by omega)]
    have h := ih (by omega)
    unfold fewPick
    cases hc : fewCand (fewTab xs a) a (xs.getD i 0) with
    | none => exact h
    | some x =>
      have hp := fewCand_pos hc
      have hv : 1 ≤ xs.getD i 0 := by
        have := hx (xs[i]'(by omega)) (List.getElem_mem _)
        simpa [List.getD, show i < xs.length by omega] using this
      rw [fewTab_get _ _ _ (by omega)] at hp
      have := fewV_bounds hx (a - (xs.getD i 0).toNat)
      dsimp only
      split <;> omega

/-- The memory of the table while a's entry is made. -/
def fewMem (xs : List Int) (most a i : Nat) : List Int := fewTab xs a ++ fewCur xs a i :: List.replicate (most - a) 0
theorem fewMem_length (xs : List Int) (most a i : Nat) (h : a ≤ most) : (fewMem xs most a i).length = most + 1 := by simp [fewMem, fewTab_length]; omega
theorem fewMem_at (xs : List Int) (most a i : Nat) : (fewMem xs most a i).getD a 0 = fewCur xs a i := by
  simp [fewMem, List.getD, fewTab_length]
theorem fewMem_old (xs : List Int) (most a i b : Nat) (h : b < a) : (fewMem xs most a i).getD b 0 = fewV xs b := by
  rw [fewMem, List.getD, List.getElem?_append_left (by rw [fewTab_length]; exact h)]
  exact fewTab_get xs a b h
theorem fewMem_set (xs : List Int) (most a i j : Nat) (x : Int) (h : fewCur xs a j = x) : (fewMem xs most a i).set a x = fewMem xs most a j := by
  unfold fewMem
  rw [List.set_append_right _ _ (by rw [fewTab_length]; exact Nat.le_refl _), fewTab_length, Nat.sub_self, List.set_cons_zero, h]
def fewRow (xs : List Int) (most a : Nat) : List Int := fewTab xs a ++ List.replicate (most + 1 - a) 0
theorem fewRow_length (xs : List Int) (most a : Nat) (h : a ≤ most + 1) : (fewRow xs most a).length = most + 1 := by simp [fewRow, fewTab_length]; omega
theorem fewRow_one (xs : List Int) (most : Nat) : fewRow xs most 1 = List.replicate (most + 1) 0 := by
  simp [fewRow, fewTab, fewAt, List.replicate_succ]
theorem fewRow_set (xs : List Int) (most a : Nat) (h : a ≤ most) : (fewRow xs most a).set a (-1) = fewMem xs most a 0 := by
  have e : most + 1 - a = (most - a) + 1 := by omega
  unfold fewRow fewMem
  rw [List.set_append_right _ _ (by rw [fewTab_length]; exact Nat.le_refl _), fewTab_length, Nat.sub_self, e, List.replicate_succ, List.set_cons_zero]
  rfl
theorem fewMem_all (xs : List Int) (most a : Nat) (h1 : 1 ≤ a) : fewMem xs most a xs.length = fewRow xs most (a + 1) := by
  unfold fewMem fewRow
  rw [fewCur_all xs a h1, fewTab]
  have e : most + 1 - (a + 1) = most - a := by omega
  rw [e, List.append_assoc]; rfl
theorem fewRow_all (xs : List Int) (most : Nat) : fewRow xs most (most + 1) = fewTab xs (most + 1) := by simp [fewRow]

set_option maxHeartbeats 8000000 in
set_option maxRecDepth 100000 in
theorem few_row (b len cap : Nat) (xs : List Int) (most : Nat) (hl : xs.length = len) (h8 : len ≤ 8) (hv : Rise xs xs.length) (hmost : most ≤ 1500) (w : World) (hc : Cells w b xs) :
    Calls Try.prog 57 #[.slice (some ⟨b, 0, none⟩) len cap, .int .i64 most] w fun e w' =>
      e = .returned (.slice (some ⟨w.heap.size, 0, none⟩) (most + 1) (most + 1)) ∧ OwnI w.heap.size w' (.slice (some ⟨w.heap.size, 0, none⟩) (most + 1) (most + 1)) (fewTab xs (most + 1)) ∧ Below w.heap.size w w' := by
  obtain ⟨i0, hi, hz0, hz1, hz2⟩ := info_parts info_i64
  have HL := Lib.hid hl
  have HV := Lib.hid hv
  clear hl hv
  go_enter Try.func57, Try.ntmps57
  go_wp2_with (refine wpList_make_full _ rfl _ _ 24 rfl w.heap.size 2 i0 (.int .i64 0) 1 Try.underlying24 hi hz0 hz1 .i64 .i64 _ _ (most + 1) rfl rfl (by omega) (by omega) (by rw [hz2]; omega) (by unfold maxLen; omega) (Nat.le_refl _) ?_; intro w1 hown1 hg1; have HO := Lib.hid (made_own hown1); have HG := Lib.hid hg1; clear hown1 hg1)
  go_loopw [6] (fun i wr => ∃ a : Nat, 1 ≤ a ∧ a ≤ most + 1 ∧ i = .int .i64 a ∧ wr.ownsRow w.heap.size 2 1 (.slice (some ⟨w.heap.size, 0, none⟩) (most + 1) (most + 1)) (most + 1) ((fewRow xs most a).map (Value.int .i64)) ∧ Below w.heap.size w wr) (fun i _ => most + 1 - (intOf i).toNat)
  case atStart => exact ⟨1, Nat.le_refl _, by omega, rfl, by rw [fewRow_one]; exact HO.out, (Below.refl _ _).grown HG.out (Nat.le_refl _) (fun k hk => by simp at hk)⟩
  case round =>
    obtain ⟨a, ha1, ha, rfl, hown, hnx⟩ := hrel
    have HB := Lib.hid hnx
    by_cases hlt : a ≤ most
    · have c0 := own_cell hown a (by omega)
      obtain ⟨y, hy⟩ : ∃ y, (fewRow xs most a).getD a 0 = y := ⟨_, rfl⟩
      rw [hy] at c0
      have f0 := hown.frozenAt a
      have HO2 : Hid ((wr.setCell ⟨w.heap.size, a, none⟩ (.int .i64 (-1))).ownsRow w.heap.size 2 1 (.slice (some ⟨w.heap.size, 0, none⟩) (most + 1) (most + 1)) (most + 1) ((fewMem xs most a 0).map (Value.int .i64))) := Lib.hid (by
        rw [← fewRow_set xs most a hlt]; exact own_store hown a (-1))
      obtain ⟨wo, rfl⟩ : ∃ wo : World, wo = wr := ⟨_, rfl⟩
      clear hy hown hnx
      go_wp2
      clear c0 f0
      go_loopw [7] (fun i wr => ∃ j : Nat, j ≤ len ∧ i = .int .i64 j ∧ wr.ownsRow w.heap.size 2 1 (.slice (some ⟨w.heap.size, 0, none⟩) (most + 1) (most + 1)) (most + 1) ((fewMem xs most a j).map (Value.int .i64)) ∧ Below w.heap.size w wr) (fun i _ => len - (intOf i).toNat)
      case atStart => exact ⟨0, Nat.zero_le _, rfl, HO2.out, HB.out.setCell (Nat.le_refl _) _⟩
      case round =>
        obtain ⟨j, hj, rfl, hown, hnx⟩ := hrel
        have HB2 := Lib.hid hnx
        have HO3 := Lib.hid hown
        by_cases hlt2 : j < len
        · have cx := hc.below hnx j (by have := HL.out; omega)
          have hbd := rise_bounds HV.out (by have := HL.out; omega : j < xs.length)
          obtain ⟨v, hxv⟩ : ∃ v : Nat, xs.getD j 0 = (v : Int) := ⟨(xs.getD j 0).toNat, by omega⟩
          rw [hxv] at cx hbd
          have HXV := Lib.hid hxv
          have HS := Lib.hid (fewCur_succ xs a j (by have := HL.out; omega))
          have c1 := own_cell hown a (by omega)
          rw [fewMem_at] at c1
          have hcb := fewCur_bounds (rise_mem HV.out) a j (by have := HL.out; omega)
          obtain ⟨p, hp⟩ : ∃ p, fewCur xs a j = p := ⟨_, rfl⟩
          rw [hp] at c1 hcb
          have HP := Lib.hid hp
          have f1 := hown.frozenAt a
          have hv1 : 1 ≤ v := by omega
          have hv5 : v ≤ 500 := by omega
          have HC := Lib.hid hc
          have hj1 : (j : Int) < (len : Int) := by omega
          by_cases hva : v ≤ a
          · have c2 := own_cell hown (a - v) (by omega)
            rw [fewMem_old _ _ _ _ _ (by omega)] at c2
            have hqb := fewV_bounds (rise_mem HV.out) (a - v)
            obtain ⟨q, hq⟩ : ∃ q, fewV xs (a - v) = q := ⟨_, rfl⟩
            rw [hq] at c2 hqb
            have HQ : Hid ((fewTab xs a).getD (a - (xs.getD j 0).toNat) 0 = q) := Lib.hid (by rw [hxv, Int.toNat_natCast, fewTab_get _ _ _ (by omega)]; exact hq)
            have t1 : decide (v ≤ a) = true := decide_eq_true hva
            have i1 : ((a : Int) - (v : Int)).toNat = a - v := by omega
            have i2 : (a : Int) - (v : Int) < (most : Int) + 1 := by omega
            have i3 : 0 ≤ (a : Int) - (v : Int) := by omega
            have i4 : (a : Int) < (most : Int) + 1 := by omega
            have hq1 : q ≤ 1500 := by omega
            have hp1 : p ≤ 1501 := by omega
            have hq0 := hqb.1
            have hp0 := hcb.1
            clear hxv hp hq hown hnx hc hbd hcb hqb
            by_cases hq2 : 0 ≤ q
            · by_cases hcur : p < 0 ∨ q + 1 < p
              · have HN : Hid (fewCur xs a (j + 1) = q + 1) := Lib.hid (by
                  rw [HS.out, HP.out]; unfold fewPick fewCand; rw [HQ.out, if_pos ⟨by rw [HXV.out]; simpa using hva, hq2⟩]; dsimp only; rw [if_pos hcur])
                have HO4 : Hid (∀ n, ((wr.drewN n).setCell ⟨w.heap.size, a, none⟩ (.int .i64 (q + 1))).ownsRow w.heap.size 2 1 (.slice (some ⟨w.heap.size, 0, none⟩) (most + 1) (most + 1)) (most + 1) ((fewMem xs most a (j + 1)).map (Value.int .i64))) := Lib.hid (by
                  intro n
                  rw [← fewMem_set xs most a j (j + 1) (q + 1) HN.out]
                  have h : (wr.drewN n).ownsRow w.heap.size 2 1 (.slice (some ⟨w.heap.size, 0, none⟩) (most + 1) (most + 1)) (most + 1) ((fewMem xs most a j).map (Value.int .i64)) := HO3.out
                  exact own_store h a _)
                have t2 : decide (0 ≤ q) = true := decide_eq_true hq2
                by_cases hp2 : p < 0
                · have t3 : decide (p < 0) = true := decide_eq_true hp2
                  clear hcur
                  go_wp2
                  go_quiet (fail)
                  go_wp2
                  go_roundw
                  case rel => exact ⟨j + 1, by omega, by go_num, HO4.out _, (below_drewN HB2.out _).setCell (Nat.le_refl _) _⟩
                  case measure => simp [intOf]; omega
                · have hcur2 : q + 1 < p := by omega
                  have t3 : decide (p < 0) = false := decide_eq_false hp2
                  have t4 : decide (q + 1 < p) = true := decide_eq_true hcur2
                  clear hcur
                  go_wp2
                  go_quiet (fail)
                  go_wp2
                  go_roundw
                  case rel => exact ⟨j + 1, by omega, by go_num, HO4.out _, (below_drewN HB2.out _).setCell (Nat.le_refl _) _⟩
                  case measure => simp [intOf]; omega
              · have HN : Hid (fewCur xs a (j + 1) = p) := Lib.hid (by
                  rw [HS.out, HP.out]; unfold fewPick fewCand; rw [HQ.out, if_pos ⟨by rw [HXV.out]; simpa using hva, hq2⟩]; dsimp only; rw [if_neg hcur])
                have HM : Hid (fewMem xs most a (j + 1) = fewMem xs most a j) := Lib.hid (by unfold fewMem; rw [HN.out, HP.out])
                have t2 : decide (0 ≤ q) = true := decide_eq_true hq2
                have t3 : decide (p < 0) = false := decide_eq_false (by omega)
                have t4 : decide (q + 1 < p) = false := decide_eq_false (by omega)
                have hp2 : 0 ≤ p := by omega
                have hq3 : p ≤ q + 1 := by omega
                clear hcur
                go_wp2
                go_quiet (fail)
                go_wp2
                go_roundw
                case rel => exact ⟨j + 1, by omega, by go_num, by rw [HM.out]; exact HO3.out, below_drewN HB2.out _⟩
                case measure => simp [intOf]; omega
            · have HN : Hid (fewCur xs a (j + 1) = p) := Lib.hid (by
                rw [HS.out, HP.out]; unfold fewPick fewCand; rw [HQ.out, if_neg (by omega)])
              have HM : Hid (fewMem xs most a (j + 1) = fewMem xs most a j) := Lib.hid (by unfold fewMem; rw [HN.out, HP.out])
              have t2 : decide (0 ≤ q) = false := decide_eq_false hq2
              go_wp2
              go_quiet (fail)
              go_wp2
              go_roundw
              case rel => exact ⟨j + 1, by omega, by go_num, by rw [HM.out]; exact HO3.out, below_drewN HB2.out _⟩
              case measure => simp [intOf]; omega
          · have HN : Hid (fewCur xs a (j + 1) = p) := Lib.hid (by
              rw [HS.out, HP.out]; unfold fewPick fewCand; rw [if_neg (by rw [HXV.out]; simp; omega)])
            have HM : Hid (fewMem xs most a (j + 1) = fewMem xs most a j) := Lib.hid (by unfold fewMem; rw [HN.out, HP.out])
            have t1 : decide (v ≤ a) = false := decide_eq_false hva
            clear hxv hp hown hnx hc hbd hcb
            go_wp2
            go_quiet (fail)
            go_wp2
            go_roundw
            case rel => exact ⟨j + 1, by omega, by go_num, by rw [HM.out]; exact HO3.out, below_drewN HB2.out _⟩
            case measure => simp [intOf]; omega
        · have hj' : j = xs.length := by have := HL.out; omega
          have HO4 : Hid (wr.ownsRow w.heap.size 2 1 (.slice (some ⟨w.heap.size, 0, none⟩) (most + 1) (most + 1)) (most + 1) ((fewRow xs most (a + 1)).map (Value.int .i64))) := Lib.hid (by
            have h := hown
            rw [hj', fewMem_all xs most a ha1] at h
            exact h)
          clear hj' hown hnx
          go_wp2
          go_roundw
          case rel => exact ⟨a + 1, by omega, by omega, by go_num, HO4.out, HB2.out⟩
          case measure => simp [intOf]; omega
    · have ha' : a = most + 1 := by omega
      have HO4 : Hid (wr.ownsRow w.heap.size 2 1 (.slice (some ⟨w.heap.size, 0, none⟩) (most + 1) (most + 1)) (most + 1) ((fewTab xs (most + 1)).map (Value.int .i64))) := Lib.hid (by
        have h := hown
        rw [ha', fewRow_all] at h
        exact h)
      clear ha' hc hown hnx
      go_wp2
      go_ret
      refine ⟨rfl, ?_, HB.out⟩
      have h := HO4.out
      unfold OwnI
      rw [fewTab_length]
      exact h
end Go.Proofs.Ytgbckddojfajjaa
