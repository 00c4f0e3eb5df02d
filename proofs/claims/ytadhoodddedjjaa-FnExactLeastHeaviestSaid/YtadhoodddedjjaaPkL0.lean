/-
  The least weight with which so many bags are enough: what it is, and the program's test of a weight.
-/
import Derived.Test.YtadhoodddedjjaaPkX
namespace Go.Proofs.Ytadhoodddedjjaa
open Go Go.RowKit
set_option linter.unusedVariables false

/-- Whether so many bags are enough with a weight. -/
def okB (ps : List (Int × Int)) (bags most : Int) : Bool := decide (FitTo ps most 9 ∧ (fill ps most 9).1 ≤ bags)
theorem okB_yes {ps : List (Int × Int)} {bags most : Int} (h : FitTo ps most 9) (h1 : (fill ps most 9).1 ≤ bags) : okB ps bags most = true := decide_eq_true ⟨h, h1⟩
theorem okB_many {ps : List (Int × Int)} {bags most : Int} (h1 : ¬ (fill ps most 9).1 ≤ bags) : okB ps bags most = false := decide_eq_false fun h => h1 h.2
theorem okB_over {ps : List (Int × Int)} {bags most : Int} (h : ¬ FitTo ps most 9) : okB ps bags most = false := decide_eq_false fun k => h k.1
/-- More weight is never less than enough. -/
theorem okB_mono {ps : List (Int × Int)} (h : OkTo ps ps.length) (h10 : ps.length ≤ 10) {bags a b : Int} (ha : 0 ≤ a) (hab : a ≤ b) (hk : okB ps bags a = true) : okB ps bags b = true := by
  obtain ⟨h1, h2⟩ : FitTo ps a 9 ∧ (fill ps a 9).1 ≤ bags := of_decide_eq_true hk
  have hm := fill_mono h h10 ha hab 9 h1
  exact okB_yes (fun s hs => by have := h1 s hs; omega) (by rcases hm with h | ⟨h, _⟩ <;> omega)
/-- The sum of the weights for the stops below m. -/
def sumW (ps : List (Int × Int)) : Nat → Int
  | 0 => 0
  | m + 1 => sumW ps m + wt ps (m : Int)
theorem fill_one {ps : List (Int × Int)} (h : OkTo ps ps.length) (h10 : ps.length ≤ 10) {most : Int} (m : Nat) (hs : sumW ps m ≤ most) :
    FitTo ps most m ∧ ((fill ps most m).1 = 0 ∧ (fill ps most m).2 = 0 ∧ sumW ps m = 0 ∨ (fill ps most m).1 = 1 ∧ (fill ps most m).2 = most - sumW ps m) ∧ 0 ≤ sumW ps m := by
  induction m with
  | zero => exact ⟨FitTo.zero _ _, .inl ⟨rfl, rfl, rfl⟩, Int.le_refl _⟩
  | succ m ih =>
    have hw := wt_bd h h10 (m : Int)
    rw [sumW] at hs ⊢
    obtain ⟨i1, i2, i3⟩ := ih (by omega)
    refine ⟨i1.succ (by omega), ?_, by omega⟩
    rw [fill]
    rcases i2 with ⟨j1, j2, j3⟩ | ⟨j1, j2⟩
    · split
      · right; simp only; omega
      · left; simp only; omega
    · right
      rw [if_neg (by omega)]; simp only; omega
/-- All the weights together, stop by stop or parcel by parcel. -/
def allK (ps : List (Int × Int)) : Nat → Int
  | 0 => 0
  | k + 1 => allK ps k + (ps.getD k (0, 0)).2
def sumT (ps : List (Int × Int)) (k : Nat) : Nat → Int
  | 0 => 0
  | m + 1 => sumT ps k m + wtTo ps (m : Int) k
theorem sumT_step (ps : List (Int × Int)) (k m : Nat) : sumT ps (k + 1) m = sumT ps k m + (if 0 ≤ (ps.getD k (0, 0)).1 ∧ (ps.getD k (0, 0)).1 < m then (ps.getD k (0, 0)).2 else 0) := by
  induction m with
  | zero => simp [sumT]; omega
  | succ m ih =>
    rw [sumT, sumT, ih, wtTo]
    by_cases e : (ps.getD k (0, 0)).1 = m
    · rw [if_pos e, if_neg (by omega), if_pos (by omega)]; omega
    · rw [if_neg e]
      by_cases e2 : 0 ≤ (ps.getD k (0, 0)).1 ∧ (ps.getD k (0, 0)).1 < m
      · rw [if_pos e2, if_pos (by omega)]; omega
      · rw [if_neg e2, if_neg (by omega)]; omega
theorem sumT_all {ps : List (Int × Int)} {k : Nat} (h : OkTo ps k) : sumT ps k 9 = allK ps k := by
  induction k with
  | zero => simp [sumT, allK, wtTo]
  | succ k ih =>
    have hk := h k (by omega)
    unfold okQ at hk
    rw [sumT_step, ih (fun i hi => h i (by omega)), allK, if_pos (by omega)]
theorem sumW_eq (ps : List (Int × Int)) (m : Nat) : sumW ps m = sumT ps ps.length m := by
  induction m with
  | zero => rfl
  | succ m ih => rw [sumW, sumT, ih]; rfl
theorem allK_bd {ps : List (Int × Int)} {k : Nat} (h : OkTo ps k) : 0 ≤ allK ps k ∧ allK ps k ≤ 5000 * k := by
  induction k with
  | zero => simp [allK]
  | succ k ih =>
    have h1 := ih (fun i hi => h i (by omega))
    have h2 := h k (by omega)
    unfold okQ at h2
    rw [allK]; omega
theorem okB_all {ps : List (Int × Int)} (h : OkTo ps ps.length) (h10 : ps.length ≤ 10) {bags most : Int} (hb : 1 ≤ bags) (hm : allK ps ps.length ≤ most) : okB ps bags most = true := by
  have e : sumW ps 9 = allK ps ps.length := by rw [sumW_eq, sumT_all h]
  obtain ⟨h1, h2, _⟩ := fill_one h h10 (most := most) 9 (by rw [e]; exact hm)
  exact okB_yes h1 (by rcases h2 with ⟨h, _⟩ | ⟨h, _⟩ <;> omega)
/-- The least weight that is enough. -/
def IsLeastB (ps : List (Int × Int)) (bags x : Int) : Prop := 1 ≤ x ∧ okB ps bags x = true ∧ ∀ y, 1 ≤ y → y < x → okB ps bags y = false
noncomputable def leastB (ps : List (Int × Int)) (bags : Int) : Int := Classical.epsilon fun x => IsLeastB ps bags x
theorem leastB_eq {ps : List (Int × Int)} {bags x : Int} (h : IsLeastB ps bags x) : leastB ps bags = x := by
  have hs : IsLeastB ps bags (leastB ps bags) := Classical.epsilon_spec (p := fun x => IsLeastB ps bags x) ⟨x, h⟩
  by_cases e : leastB ps bags = x
  · exact e
  · by_cases e1 : leastB ps bags < x
    · have := h.2.2 _ hs.1 e1; rw [hs.2.1] at this; simp at this
    · have := hs.2.2 _ h.1 (by omega); rw [h.2.1] at this; simp at this
noncomputable def leastR (ps : List (Int × Int)) (bags : Int) : Int := if vldQ ps = true ∧ 1 ≤ bags ∧ bags ≤ 10 then leastB ps bags else 0
def leastC (ps : List (Int × Int)) (bags : Int) : Int := if vldQ ps = false then 1 else if 1 ≤ bags ∧ bags ≤ 10 then 0 else 2
theorem leastC_1 {ps : List (Int × Int)} {bags : Int} (h : vldQ ps = false) : leastC ps bags = 1 ∧ leastR ps bags = 0 := ⟨by simp [leastC, h], by simp [leastR, h]⟩
theorem leastC_2 {ps : List (Int × Int)} {bags : Int} (h : vldQ ps = true) (h1 : ¬ (1 ≤ bags ∧ bags ≤ 10)) : leastC ps bags = 2 ∧ leastR ps bags = 0 := by
  refine ⟨by rw [leastC, if_neg (by simp [h]), if_neg h1], ?_⟩
  rw [leastR, if_neg (fun k => h1 k.2)]
theorem leastC_0 {ps : List (Int × Int)} {bags : Int} (h : vldQ ps = true) (h1 : 1 ≤ bags ∧ bags ≤ 10) : leastC ps bags = 0 ∧ leastR ps bags = leastB ps bags := ⟨by rw [leastC, if_neg (by simp [h]), if_pos h1], by rw [leastR, if_pos ⟨h, h1⟩]⟩

set_option maxHeartbeats 4000000 in
set_option maxRecDepth 100000 in
theorem leastF_any (v : Value) (ps : List (Int × Int)) (bags h : Int) (p r : Nat) (w : World) (hp : w.cell? ⟨p, 0, none⟩ = some v) (hr : w.cell? ⟨r, 0, none⟩ = some (.int .i64 bags)) (hv : ReadsQ w v ps) (hvl : vldQ ps = true) (h0 : 0 ≤ h) (h1 : h ≤ 50000) :
    Calls Try.prog 76 #[.int .i64 h, .pointer (some ⟨p, 0, none⟩), .pointer (some ⟨r, 0, none⟩)] w fun e w' => e = .returned (.bool (okB ps bags (h + 1))) ∧ Below w.heap.size w w' := by
  have hpl := World.block_lt_of_cell? w _ hp
  have hrl := World.block_lt_of_cell? w _ hr
  simp only at hpl hrl
  have HR := Lib.hid hr
  have HV := Lib.hid hv
  obtain ⟨va, vc, hve, _⟩ := hv
  subst hve
  go_enter Try.func76, Try.ntmps76
  go_wp2_with fail
  refine (ibags_any _ ps _ _ HV.out hvl (by omega) (by omega)).mono ?_
  rintro e w3 ⟨L, hL9, hres, b3⟩
  have hr3 : w3.cell? ⟨r, 0, none⟩ = some (.int .i64 bags) := by rw [b3.cell (p := ⟨r, 0, none⟩) hrl]; exact HR.out
  have HB3 := Lib.hid b3
  have hr3l : r < w3.heap.size := Nat.lt_of_lt_of_le hrl b3.size
  have hrne : r ≠ w3.heap.size := by omega
  obtain ⟨a0, a1, a2, a3, a4, a5, a6, a7, a8, hLL⟩ := list9 hL9
  have G0 : Hid ((w3.alloc (.cells #[.int .i64 0, .int .i64 0, .int .i64 0, .int .i64 0, .int .i64 0, .int .i64 0, .int .i64 0, .int .i64 0, .int .i64 0] 63)).heap[w3.heap.size]? = some (.cells #[.int .i64 0, .int .i64 0, .int .i64 0, .int .i64 0, .int .i64 0, .int .i64 0, .int .i64 0, .int .i64 0, .int .i64 0] 63 (0, 0))) := Lib.hid (heap_alloc_new w3 _)
  have GR : Hid (((w3.alloc (.cells #[.int .i64 0, .int .i64 0, .int .i64 0, .int .i64 0, .int .i64 0, .int .i64 0, .int .i64 0, .int .i64 0, .int .i64 0] 63)).setRow w3.heap.size #[.int .i64 a0, .int .i64 a1, .int .i64 a2, .int .i64 a3, .int .i64 a4, .int .i64 a5, .int .i64 a6, .int .i64 a7, .int .i64 a8]).cell? ⟨r, 0, none⟩ = some (.int .i64 bags)) := Lib.hid (by
    rw [World.cell?_of_block (w := w3.alloc (.cells #[.int .i64 0, .int .i64 0, .int .i64 0, .int .i64 0, .int .i64 0, .int .i64 0, .int .i64 0, .int .i64 0, .int .i64 0] 63)) (a := ⟨r, 0, none⟩) (by simp only [World.setRow]; rw [Array.getElem?_modify, if_neg (by omega)])]
    rw [World.cell?_alloc_lt]
    · exact hr3
    · exact hr3l)
  have GB : Hid (Below w.heap.size w ((w3.alloc (.cells #[.int .i64 0, .int .i64 0, .int .i64 0, .int .i64 0, .int .i64 0, .int .i64 0, .int .i64 0, .int .i64 0, .int .i64 0] 63)).setRow w3.heap.size #[.int .i64 a0, .int .i64 a1, .int .i64 a2, .int .i64 a3, .int .i64 a4, .int .i64 a5, .int .i64 a6, .int .i64 a7, .int .i64 a8])) := Lib.hid (below_setRow (b3.alloc b3.size _) b3.size)
  subst hLL
  clear b3 hL9 hr3 hr hp
  rcases hres with ⟨hft, _, rfl⟩ | ⟨hno, rfl⟩
  · unfold arr9
    simp only [List.map_cons, List.map_nil]
    have HF := Lib.hid hft
    by_cases hc : (fill ps (h + 1) 9).1 ≤ bags
    · have HO := Lib.hid (okB_yes (bags := bags) hft hc)
      obtain ⟨c, hce⟩ : ∃ c, (fill ps (h + 1) 9).1 = c := ⟨_, rfl⟩
      rw [hce] at hc ⊢
      have t1 : decide (c ≤ bags) = true := decide_eq_true hc
      clear hft hce
      go_wp2_with (refine wpList_store_row (o := ⟨none, _, _, _, _, _⟩) rfl 63 (.tmp 5) (.tmp 13) rfl w3.heap.size #[.int .i64 a0, .int .i64 a1, .int .i64 a2, .int .i64 a3, .int .i64 a4, .int .i64 a5, .int .i64 a6, .int .i64 a7, .int .i64 a8] rfl rfl 63 _ G0.out rfl rfl (ones9 a0 a1 a2 a3 a4 a5 a6 a7 a8) ?_; obtain ⟨W, hW⟩ : ∃ W, (w3.alloc (.cells #[.int .i64 0, .int .i64 0, .int .i64 0, .int .i64 0, .int .i64 0, .int .i64 0, .int .i64 0, .int .i64 0, .int .i64 0] 63)).setRow w3.heap.size #[.int .i64 a0, .int .i64 a1, .int .i64 a2, .int .i64 a3, .int .i64 a4, .int .i64 a5, .int .i64 a6, .int .i64 a7, .int .i64 a8] = W := ⟨_, rfl⟩; rw [hW] at GR GB ⊢; clear hW; have hcr := GR.out)
      go_ret
      exact ⟨(ret_bool HO.out).symm, GB.out⟩
    · have HO := Lib.hid (okB_many (ps := ps) (bags := bags) (most := h + 1) hc)
      obtain ⟨c, hce⟩ : ∃ c, (fill ps (h + 1) 9).1 = c := ⟨_, rfl⟩
      rw [hce] at hc ⊢
      have t1 : decide (c ≤ bags) = false := decide_eq_false hc
      clear hft hce
      go_wp2_with (refine wpList_store_row (o := ⟨none, _, _, _, _, _⟩) rfl 63 (.tmp 5) (.tmp 13) rfl w3.heap.size #[.int .i64 a0, .int .i64 a1, .int .i64 a2, .int .i64 a3, .int .i64 a4, .int .i64 a5, .int .i64 a6, .int .i64 a7, .int .i64 a8] rfl rfl 63 _ G0.out rfl rfl (ones9 a0 a1 a2 a3 a4 a5 a6 a7 a8) ?_; obtain ⟨W, hW⟩ : ∃ W, (w3.alloc (.cells #[.int .i64 0, .int .i64 0, .int .i64 0, .int .i64 0, .int .i64 0, .int .i64 0, .int .i64 0, .int .i64 0, .int .i64 0] 63)).setRow w3.heap.size #[.int .i64 a0, .int .i64 a1, .int .i64 a2, .int .i64 a3, .int .i64 a4, .int .i64 a5, .int .i64 a6, .int .i64 a7, .int .i64 a8] = W := ⟨_, rfl⟩; rw [hW] at GR GB ⊢; clear hW; have hcr := GR.out)
      go_ret
      exact ⟨(ret_bool HO.out).symm, GB.out⟩
  · unfold arr9
    simp only [List.map_cons, List.map_nil]
    have HO := Lib.hid (okB_over (bags := bags) hno)
    clear hno
    go_wp2_with (refine wpList_store_row (o := ⟨none, _, _, _, _, _⟩) rfl 63 (.tmp 5) (.tmp 13) rfl w3.heap.size #[.int .i64 a0, .int .i64 a1, .int .i64 a2, .int .i64 a3, .int .i64 a4, .int .i64 a5, .int .i64 a6, .int .i64 a7, .int .i64 a8] rfl rfl 63 _ G0.out rfl rfl (ones9 a0 a1 a2 a3 a4 a5 a6 a7 a8) ?_; obtain ⟨W, hW⟩ : ∃ W, (w3.alloc (.cells #[.int .i64 0, .int .i64 0, .int .i64 0, .int .i64 0, .int .i64 0, .int .i64 0, .int .i64 0, .int .i64 0, .int .i64 0] 63)).setRow w3.heap.size #[.int .i64 a0, .int .i64 a1, .int .i64 a2, .int .i64 a3, .int .i64 a4, .int .i64 a5, .int .i64 a6, .int .i64 a7, .int .i64 a8] = W := ⟨_, rfl⟩; rw [hW] at GR GB ⊢; clear hW; have hcr := GR.out)
    go_ret
    exact ⟨(ret_bool HO.out).symm, GB.out⟩
end Go.Proofs.Ytadhoodddedjjaa
