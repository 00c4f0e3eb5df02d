/-
  Contracts of what sums up the weights for stops: the model's sum for one stop, the program's nine sums in an array; and both WeightAt.
-/
import Derived.Test.YteecpijfikgjnaaPkV
import Derived.Test.YteecpijfikgjnaaArrIx
import Derived.RegionTactic
import Derived.BigRegion
namespace Go.Proofs.Yteecpijfikgjnaa
open Go Go.RowKit
set_option linter.unusedVariables false

set_option maxHeartbeats 2000000 in
set_option maxRecDepth 100000 in
theorem sat_row (b len cap : Nat) (ps : List (Int × Int)) (s : Int) (hl : ps.length = len) (h10 : len ≤ 10) (hok : OkTo ps ps.length) (w : World) (hc : CellsQ w b ps) :
    Calls Try.prog 31 #[.slice (some ⟨b, 0, none⟩) len cap, .int .i64 s] w fun e w' => e = .returned (.int .i64 (wt ps s)) ∧ Below w.heap.size w w' := by
  have HL := Lib.hid hl
  have HOK := Lib.hid hok
  have HC := Lib.hid hc
  clear hl hok hc
  go_enter Try.func31, Try.ntmps31
  go_wp2_with fail
  go_loopw [5, 6] (fun t i wr => ∃ k : Nat, k ≤ len ∧ i = .int .i64 k ∧ t = .int .i64 (wtTo ps s k) ∧ Below w.heap.size w wr) (fun _ i _ => len - (intOf i).toNat)
  case atStart => exact ⟨0, Nat.zero_le _, rfl, rfl, Below.refl _ _⟩
  case round =>
    obtain ⟨k, hk, rfl, rfl, hnx⟩ := hrel
    have HB := Lib.hid hnx
    by_cases hlt : k < len
    · have hkp : k < ps.length := by have := HL.out; omega
      obtain ⟨c0, c1⟩ := HC.out.below hnx k hkp
      have hq1 := HOK.out k hkp
      have hb := wtTo_bd (fun i hi => HOK.out i (by omega) : OkTo ps k) s
      unfold okQ at hq1
      have HS : Hid (wtTo ps s (k + 1) = wtTo ps s k + (if (ps.getD k (0, 0)).1 = s then (ps.getD k (0, 0)).2 else 0)) := Lib.hid rfl
      obtain ⟨q, hq⟩ : ∃ q, ps.getD k (0, 0) = q := ⟨_, rfl⟩
      rw [hq] at c0 c1 hq1 HS
      obtain ⟨x, y⟩ := q
      simp only at hq1
      have hx1 := hq1.1
      have hx2 := hq1.2.1
      have hy1 := hq1.2.2.1
      have hy2 := hq1.2.2.2
      obtain ⟨t, ht⟩ : ∃ t, wtTo ps s k = t := ⟨_, rfl⟩
      rw [ht] at hb HS ⊢
      have ht1 := hb.1
      have ht2 : t ≤ 50000 := by have := hb.2; omega
      have hkl : (k : Int) < (len : Int) := by omega
      clear hq ht hnx hb hq1
      by_cases hxs : x = s
      · have hbe : (x == s) = true := by simp [hxs]
        have HXS := Lib.hid hxs
        clear hxs
        go_wp2_with fail
        go_roundw
        case rel => exact ⟨k + 1, by omega, by go_num, by rw [HS.out, if_pos HXS.out], HB.out⟩
        case measure => simp [intOf]; omega
      · have hbe : (x == s) = false := by simp [hxs]
        go_wp2_with fail
        go_roundw
        case rel => exact ⟨k + 1, by omega, by go_num, by rw [HS.out, if_neg hxs, Int.add_zero], HB.out⟩
        case measure => simp [intOf]; omega
    · have HE : Hid (k = ps.length) := Lib.hid (by have := HL.out; omega)
      clear hnx
      go_wp2_with fail
      go_ret
      exact ⟨ret_int (by rw [HE.out]; rfl), HB.out⟩

set_option maxHeartbeats 1000000 in
theorem sat_zero (a : Option Addr) (cap : Nat) (s : Int) (w : World) :
    Calls Try.prog 31 #[.slice a 0 cap, .int .i64 s] w fun e w' => e = .returned (.int .i64 0) ∧ Below w.heap.size w w' := by
  go_enter Try.func31, Try.ntmps31
  go_wp2
  refine wp_loop_rounds 1 ?_
  rw [rounds_succ]
  go_wp2
  go_ret
  exact ⟨rfl, Below.refl _ _⟩

theorem sat_any (v : Value) (ps : List (Int × Int)) (s : Int) (w : World) (hv : ReadsQ w v ps) (hvl : vldQ ps = true) :
    Calls Try.prog 31 #[v, .int .i64 s] w fun e w' => e = .returned (.int .i64 (wt ps s)) ∧ Below w.heap.size w w' := by
  obtain ⟨a, cap, rfl, h⟩ := hv
  obtain ⟨h10, hok⟩ := vldQ_spec hvl
  by_cases h0 : ps = []
  · subst h0
    exact sat_zero a cap s w
  · obtain ⟨b, rfl, hc⟩ := h h0
    exact sat_row b ps.length cap ps s rfl h10 hok w hc

/-- The nine sums, as the array that weightsByStop answers. -/
def wtsV (ps : List (Int × Int)) : Value := .agg ((wts ps).map (Value.int .i64)).toArray
abbrev zero9 : List Int := [0, 0, 0, 0, 0, 0, 0, 0, 0]
theorem list9 {L : List Int} (h : L.length = 9) : ∃ a0 a1 a2 a3 a4 a5 a6 a7 a8, L = [a0, a1, a2, a3, a4, a5, a6, a7, a8] := by
  match L, h with
  | [a0, a1, a2, a3, a4, a5, a6, a7, a8], _ => exact ⟨a0, a1, a2, a3, a4, a5, a6, a7, a8, rfl⟩
theorem ones9 (a0 a1 a2 a3 a4 a5 a6 a7 a8 : Int) : (#[.int .i64 a0, .int .i64 a1, .int .i64 a2, .int .i64 a3, .int .i64 a4, .int .i64 a5, .int .i64 a6, .int .i64 a7, .int .i64 a8] : Array Value).all (·.oneCell') = true := by
  rw [Array.all_eq_true_iff_forall_mem]
  intro v hv
  simp at hv
  rcases hv with rfl | rfl | rfl | rfl | rfl | rfl | rfl | rfl | rfl <;> rfl
theorem BlockI.row {W : World} {B : Nat} {T : TypeId} {L : List Int} (h : BlockI W B T L) : W.heap[B]? = some (.cells (L.map (Value.int .i64)).toArray T (0, 0)) := h
theorem below_setRow {B : Nat} {w0 w : World} {g : Nat} {cs : Array Value} (hb : Below B w0 w) (hg : B ≤ g) : Below B w0 (w.setRow g cs) :=
  hb.trans ⟨rfl, rfl, rfl, by simp [World.setRow], fun k hk => by simp only [World.setRow]; rw [Array.getElem?_modify]; rw [if_neg (by omega)]⟩

set_option maxHeartbeats 4000000 in
set_option maxRecDepth 100000 in
theorem iwts_row (b len cap : Nat) (ps : List (Int × Int)) (hl : ps.length = len) (h10 : len ≤ 10) (hok : OkTo ps ps.length) (w : World) (hc : CellsQ w b ps) :
    Calls Try.prog 44 #[.slice (some ⟨b, 0, none⟩) len cap] w fun e w' => e = .returned (wtsV ps) ∧ Below w.heap.size w w' := by
  have HL := Lib.hid hl
  have HOK := Lib.hid hok
  have HC := Lib.hid hc
  clear hl hok hc
  go_enter Try.func44, Try.ntmps44
  go_wp2_with fail
  go_loopw [8] (fun i wr => ∃ k : Nat, k ≤ len ∧ i = .int .i64 k ∧ BlockI wr w.heap.size 66 zero9 ∧ BlockI wr (w.heap.size + 1) 66 (wtsK ps k) ∧ Below w.heap.size w wr) (fun i _ => len - (intOf i).toNat)
  case atStart =>
    refine ⟨0, Nat.zero_le _, rfl, (BlockI.new w _ zero9).alloc _, ?_, ((Below.refl _ _).alloc (Nat.le_refl _) _).alloc (by simp) _⟩
    rw [wtsK_zero]
    have h := BlockI.new (w.alloc (.cells #[.int .i64 0, .int .i64 0, .int .i64 0, .int .i64 0, .int .i64 0, .int .i64 0, .int .i64 0, .int .i64 0, .int .i64 0] 66)) 66 zero9
    simp only [World.size_alloc] at h
    exact h
  case round =>
    obtain ⟨k, hk, rfl, h0, h1, hnx⟩ := hrel
    have HB := Lib.hid hnx
    have H0 := Lib.hid h0
    have H1 := Lib.hid h1
    by_cases hlt : k < len
    · have hkp : k < ps.length := by have := HL.out; omega
      obtain ⟨c0, c1⟩ := HC.out.below hnx k hkp
      have hq1 := HOK.out k hkp
      unfold okQ at hq1
      obtain ⟨s, hs⟩ : ∃ s : Nat, (ps.getD k (0, 0)).1 = (s : Int) := ⟨(ps.getD k (0, 0)).1.toNat, by omega⟩
      have hb := wtTo_bd (fun i hi => HOK.out i (by omega) : OkTo ps k) (s : Int)
      have hs9 : s < 9 := by omega
      have hset := wtsK_set hs9 hs
      have d0 := h1.cell s (by rw [wtsK_len]; exact hs9)
      rw [wtsK_get ps k s hs9] at d0
      have f0 := h1.frozen s
      obtain ⟨q, hq⟩ : ∃ q, ps.getD k (0, 0) = q := ⟨_, rfl⟩
      rw [hq] at c0 c1 hq1 hs hset
      obtain ⟨x, y⟩ := q
      simp only at hq1 hs hset
      subst hs
      have hy1 := hq1.2.2.1
      have hy2 := hq1.2.2.2
      obtain ⟨t, ht⟩ : ∃ t, wtTo ps (s : Int) k = t := ⟨_, rfl⟩
      rw [ht] at hb d0 hset
      have ht1 := hb.1
      have ht2 : t ≤ 50000 := by have := hb.2; omega
      have hz : w.heap.size + 1 < wr.heap.size := h1.lt
      have hs9i : (s : Int) < 9 := by omega
      have HSET := Lib.hid hset
      clear hq ht hnx hb hq1 h0 h1 hset
      go_wp2_with fail
      go_region
      go_wp2_with fail
      go_roundw
      case rel =>
        refine ⟨k + 1, by omega, by go_num, ?_, ?_, ?_⟩
        · exact (H0.out.other _ _ (by simp)).alloc _
        · rw [← HSET.out]; exact (H1.out.set s (t + y)).alloc _
        · exact ((HB.out.setCell (by simp) _).alloc (by simp; omega) _).drew
      case measure => simp [intOf]; omega
    · have HE : Hid (k = ps.length) := Lib.hid (by have := HL.out; omega)
      clear hnx h0 h1
      obtain ⟨a0, a1, a2, a3, a4, a5, a6, a7, a8, hL⟩ := list9 (wts_len ps)
      have HV : Hid (wtsV ps = .agg #[.int .i64 a0, .int .i64 a1, .int .i64 a2, .int .i64 a3, .int .i64 a4, .int .i64 a5, .int .i64 a6, .int .i64 a7, .int .i64 a8]) := Lib.hid (by unfold wtsV; rw [hL]; rfl)
      have G1 : Hid (wr.heap[w.heap.size + 1]? = some (.cells #[.int .i64 a0, .int .i64 a1, .int .i64 a2, .int .i64 a3, .int .i64 a4, .int .i64 a5, .int .i64 a6, .int .i64 a7, .int .i64 a8] 66 (0, 0))) := Lib.hid (by
        have h := H1.out
        rw [HE.out, show wtsK ps ps.length = [a0, a1, a2, a3, a4, a5, a6, a7, a8] from hL] at h
        exact h)
      have G0 : Hid (wr.heap[w.heap.size]? = some (.cells #[.int .i64 0, .int .i64 0, .int .i64 0, .int .i64 0, .int .i64 0, .int .i64 0, .int .i64 0, .int .i64 0, .int .i64 0] 66 (0, 0))) := Lib.hid H0.out
      clear hL
      go_wp2_with (first
        | refine wpList_load_row (o := ⟨some 22, _, _, _, _, _⟩) rfl 66 (.tmp 3) rfl (w.heap.size + 1) rfl 66 _ (0, 0) _ G1.out rfl rfl rfl ?_
        | refine wpList_store_row (o := ⟨none, _, _, _, _, _⟩) rfl 66 (.tmp 2) (.tmp 22) rfl w.heap.size #[.int .i64 a0, .int .i64 a1, .int .i64 a2, .int .i64 a3, .int .i64 a4, .int .i64 a5, .int .i64 a6, .int .i64 a7, .int .i64 a8] rfl rfl 66 _ G0.out rfl rfl (ones9 a0 a1 a2 a3 a4 a5 a6 a7 a8) ?_)
      refine bodyPost_ret (v := .agg #[.int .i64 a0, .int .i64 a1, .int .i64 a2, .int .i64 a3, .int .i64 a4, .int .i64 a5, .int .i64 a6, .int .i64 a7, .int .i64 a8]) ?_ rfl ⟨by rw [HV.out], below_setRow HB.out (Nat.le_refl _)⟩
      exact results_cell_row Try.results44 _ _ w.heap.size 66 _ (0, 0) _ rfl (setRow_heap _ _ _ _ _ _ G0.out) rfl rfl rfl

set_option maxHeartbeats 4000000 in
set_option maxRecDepth 100000 in
theorem iwts_zero (a : Option Addr) (cap : Nat) (w : World) :
    Calls Try.prog 44 #[.slice a 0 cap] w fun e w' => e = .returned (wtsV []) ∧ Below w.heap.size w w' := by
  have G0 : Hid (((w.alloc (.cells #[.int .i64 0, .int .i64 0, .int .i64 0, .int .i64 0, .int .i64 0, .int .i64 0, .int .i64 0, .int .i64 0, .int .i64 0] 66)).alloc (.cells #[.int .i64 0, .int .i64 0, .int .i64 0, .int .i64 0, .int .i64 0, .int .i64 0, .int .i64 0, .int .i64 0, .int .i64 0] 66)).heap[w.heap.size]? = some (.cells #[.int .i64 0, .int .i64 0, .int .i64 0, .int .i64 0, .int .i64 0, .int .i64 0, .int .i64 0, .int .i64 0, .int .i64 0] 66 (0, 0))) := Lib.hid ((BlockI.new w 66 zero9).alloc _)
  have G1 : Hid (((w.alloc (.cells #[.int .i64 0, .int .i64 0, .int .i64 0, .int .i64 0, .int .i64 0, .int .i64 0, .int .i64 0, .int .i64 0, .int .i64 0] 66)).alloc (.cells #[.int .i64 0, .int .i64 0, .int .i64 0, .int .i64 0, .int .i64 0, .int .i64 0, .int .i64 0, .int .i64 0, .int .i64 0] 66)).heap[w.heap.size + 1]? = some (.cells #[.int .i64 0, .int .i64 0, .int .i64 0, .int .i64 0, .int .i64 0, .int .i64 0, .int .i64 0, .int .i64 0, .int .i64 0] 66 (0, 0))) := Lib.hid (by
    have h := BlockI.new (w.alloc (.cells #[.int .i64 0, .int .i64 0, .int .i64 0, .int .i64 0, .int .i64 0, .int .i64 0, .int .i64 0, .int .i64 0, .int .i64 0] 66)) 66 zero9
    simp only [World.size_alloc] at h
    exact h)
  have HB : Hid (Below w.heap.size w ((w.alloc (.cells #[.int .i64 0, .int .i64 0, .int .i64 0, .int .i64 0, .int .i64 0, .int .i64 0, .int .i64 0, .int .i64 0, .int .i64 0] 66)).alloc (.cells #[.int .i64 0, .int .i64 0, .int .i64 0, .int .i64 0, .int .i64 0, .int .i64 0, .int .i64 0, .int .i64 0, .int .i64 0] 66))) := Lib.hid (((Below.refl _ _).alloc (Nat.le_refl _) _).alloc (by simp) _)
  go_enter Try.func44, Try.ntmps44
  go_wp2_with fail
  refine wp_loop_rounds 1 ?_
  rw [rounds_succ]
  go_wp2_with fail
  refine bodyPost_ret (v := .agg #[.int .i64 0, .int .i64 0, .int .i64 0, .int .i64 0, .int .i64 0, .int .i64 0, .int .i64 0, .int .i64 0, .int .i64 0]) ?_ rfl ⟨rfl, HB.out⟩
  exact results_cell_row Try.results44 _ _ w.heap.size 66 _ (0, 0) _ rfl G0.out rfl rfl rfl

theorem wtsV_at (ps : List (Int × Int)) (m : Nat) (h : m < 9) : ((wts ps).map (Value.int .i64)).toArray[m]? = some (.int .i64 (wt ps (m : Int))) := by
  have h1 := wts_get ps m h
  have h2 := wts_len ps
  simp only [List.getElem?_toArray, List.getElem?_map]
  rw [List.getElem?_eq_getElem (by omega)]
  simp only [List.getD, List.getElem?_eq_getElem (show m < (wts ps).length by omega), Option.getD_some] at h1
  simp [h1]
theorem iwts_any (v : Value) (ps : List (Int × Int)) (w : World) (hv : ReadsQ w v ps) (hvl : vldQ ps = true) :
    Calls Try.prog 44 #[v] w fun e w' => e = .returned (wtsV ps) ∧ Below w.heap.size w w' := by
  obtain ⟨a, cap, rfl, h⟩ := hv
  obtain ⟨h10, hok⟩ := vldQ_spec hvl
  by_cases h0 : ps = []
  · subst h0
    exact iwts_zero a cap w
  · obtain ⟨b, rfl, hc⟩ := h h0
    exact iwts_row b ps.length cap ps rfl h10 hok w hc

theorem ret_pair {a b c d : Int} (h : a = c) (g : b = d) : Ending.returned (.tuple #[.int .i64 a, .int .i64 b]) = .returned (.tuple #[.int .i64 c, .int .i64 d]) := by rw [h, g]

end Go.Proofs.Yteecpijfikgjnaa
