/-
  Contracts of the laws' helpers that copy and size rows of boxes.
-/
import Derived.Test.YtgdekplkadnmpaaTrip
namespace Go.Proofs.Ytgdekplkadnmpaa
open Go Go.RowKit
set_option linter.unusedVariables false

/-- What 'toBoxS' has copied after k rounds. -/
def copiedB (ps : List Tri) (k : Nat) : List Tri := ps.take k ++ List.replicate (ps.length - k) (0, 0, 0)
theorem copiedB_zero (ps : List Tri) : copiedB ps 0 = List.replicate ps.length (0, 0, 0) := by simp [copiedB]
theorem copiedB_all (ps : List Tri) : copiedB ps ps.length = ps := by simp [copiedB]
theorem copiedB_length (ps : List Tri) (k : Nat) (h : k ≤ ps.length) : (copiedB ps k).length = ps.length := by simp [copiedB]; omega
theorem copiedB_set (ps : List Tri) (k : Nat) (h : k < ps.length) : (copiedB ps k).set k (ps.getD k (0, 0, 0)) = copiedB ps (k + 1) := by
  have h1 : (List.take k ps).length = k := by simp; omega
  have h2 : ps.length - k = (ps.length - (k + 1)) + 1 := by omega
  unfold copiedB
  rw [List.set_append_right _ _ (by omega), h1, Nat.sub_self, h2, List.replicate_succ, List.set_cons_zero]
  rw [List.take_succ_eq_append_getElem h, List.append_assoc]
  simp [List.getD, h]
theorem made_boxes (n : Nat) : (madeCells (Value.agg #[.int .i8 0, .int .i8 0, .int .i8 0]).cells (n * 3)).toList = flatB (List.replicate n (0, 0, 0)) := by
  apply List.ext_getElem?
  intro j
  have hs : (Value.agg #[.int .i8 0, .int .i8 0, .int .i8 0]).cells = #[.int .i8 0, .int .i8 0, .int .i8 0] := rfl
  rw [hs]
  have hl : (flatB (List.replicate n ((0 : Int), (0 : Int), (0 : Int)))).length = n * 3 := by rw [flatB_length]; simp
  by_cases hj : j < n * 3
  · have e : (flatB (List.replicate n ((0 : Int), (0 : Int), (0 : Int))))[j]? = some (.int .i8 0) := by
      have h2 : j = (j / 3) * 3 ∨ j = (j / 3) * 3 + 1 ∨ j = (j / 3) * 3 + 2 := by omega
      rcases h2 with h2 | h2 | h2
      · rw [h2, flatB_0 _ _ (by simp; omega)]; simp [List.getD, show j / 3 < n by omega]
      · rw [h2, flatB_1 _ _ (by simp; omega)]; simp [List.getD, show j / 3 < n by omega]
      · rw [h2, flatB_2 _ _ (by simp; omega)]; simp [List.getD, show j / 3 < n by omega]
    rw [e]
    have h2 : j % 3 = 0 ∨ j % 3 = 1 ∨ j % 3 = 2 := by omega
    rcases h2 with h2 | h2 | h2 <;> simp [madeCells, hj, h2]
  · rw [List.getElem?_eq_none (by rw [Array.length_toList, size_madeCells]; omega), List.getElem?_eq_none (by rw [hl]; omega)]

set_option maxHeartbeats 2000000 in
set_option maxRecDepth 100000 in
theorem toBoxS_row (b off len cap : Nat) (ps : List Tri) (hl : ps.length = len) (hm : len ≤ 1048576) (w : World)
    (hc : ∀ i, i < len → w.cell? ⟨b, off + i * 3, none⟩ = some (.int .i8 (ps.getD i (0, 0, 0)).1) ∧ w.cell? ⟨b, off + i * 3 + 1, none⟩ = some (.int .i8 (ps.getD i (0, 0, 0)).2.1) ∧ w.cell? ⟨b, off + i * 3 + 2, none⟩ = some (.int .i8 (ps.getD i (0, 0, 0)).2.2)) :
    Calls Try.prog 6 #[.slice (some ⟨b, off, none⟩) len cap] w fun e w' => e = .returned (.slice (some ⟨w.heap.size, 0, none⟩) len len) ∧ OwnB 38 w.heap.size w' (.slice (some ⟨w.heap.size, 0, none⟩) len len) ps ∧ Below w.heap.size w w' := by
  subst hl
  obtain ⟨i0, hi, hz0, hz1, hz2⟩ := info_parts info_box
  go_enter Try.func6, Try.ntmps6
  go_wp2_with (refine wpList_make_full _ rfl _ _ 27 rfl w.heap.size 38 i0 (.agg #[.int .i8 0, .int .i8 0, .int .i8 0]) 3 Try.underlying27 hi hz0 hz1 .i64 .i64 _ _ ps.length rfl rfl rfl rfl (by rw [hz2]; omega) (by unfold maxLen; omega) (Nat.le_refl _) ?_; intro w1 hown1 hg1)
  rw [made_boxes] at hown1
  go_loopw [4] (fun i wr => ∃ k : Nat, k ≤ ps.length ∧ i = .int .i64 k ∧ wr.ownsRow w.heap.size 38 3 (.slice (some ⟨w.heap.size, 0, none⟩) ps.length ps.length) ps.length (flatB (copiedB ps k)) ∧ Below w.heap.size w wr) (fun i _ => ps.length - (intOf i).toNat)
  case atStart =>
    exact ⟨0, Nat.zero_le _, rfl, by rw [copiedB_zero]; exact hown1, (Below.refl _ _).grown hg1 (Nat.le_refl _) (fun k hk => by simp at hk)⟩
  case round =>
    obtain ⟨k, hk, rfl, hown, hnx⟩ := hrel
    by_cases hlt : k < ps.length
    · obtain ⟨h0, h1, h2⟩ := hc k hlt
      have c0 : wr.cell? ⟨b, off + k * 3, none⟩ = some (.int .i8 (ps.getD k (0, 0, 0)).1) := by
        rw [hnx.cell (p := ⟨b, off + k * 3, none⟩) (World.block_lt_of_cell? w _ h0)]; exact h0
      have c1 : wr.cell? ⟨b, off + k * 3 + 1, none⟩ = some (.int .i8 (ps.getD k (0, 0, 0)).2.1) := by
        rw [hnx.cell (p := ⟨b, off + k * 3 + 1, none⟩) (World.block_lt_of_cell? w _ h1)]; exact h1
      have c2 : wr.cell? ⟨b, off + k * 3 + 2, none⟩ = some (.int .i8 (ps.getD k (0, 0, 0)).2.2) := by
        rw [hnx.cell (p := ⟨b, off + k * 3 + 2, none⟩) (World.block_lt_of_cell? w _ h2)]; exact h2
      obtain ⟨p, hp⟩ : ∃ p, ps.getD k (0, 0, 0) = p := ⟨_, rfl⟩
      rw [hp] at c0 c1 c2
      obtain ⟨x, y, z⟩ := p
      have hcl : (copiedB ps k).length = ps.length := copiedB_length ps k hk
      have HP := Lib.hid hp
      have HO := Lib.hid hown
      have HB := Lib.hid hnx
      have HC := Lib.hid hc
      have HCL := Lib.hid hcl
      have hwr : w.heap.size ≤ wr.heap.size := hnx.size
      clear hp hown hnx hc h0 h1 h2 hcl
      go_wp2_with fail
      refine (toBox_any x y z _).mono ?_
      rintro e w2 ⟨rfl, b2⟩
      have o2 : OwnB 38 w.heap.size w2 (.slice (some ⟨w.heap.size, 0, none⟩) ps.length ps.length) (copiedB ps k) := OwnB.below (by unfold OwnB; rw [HCL.out]; exact HO.out) b2
      unfold OwnB at o2
      rw [HCL.out] at o2
      have f0 := o2.frozenAt (k * 3)
      have f1 := o2.frozenAt (k * 3 + 1)
      have f2 := o2.frozenAt (k * 3 + 2)
      have d0 := o2.cellAt (k * 3) (by omega)
      have d1 := o2.cellAt (k * 3 + 1) (by omega)
      have d2 := o2.cellAt (k * 3 + 2) (by omega)
      rw [flatB_0 _ _ (by rw [HCL.out]; exact hlt)] at d0
      rw [flatB_1 _ _ (by rw [HCL.out]; exact hlt)] at d1
      rw [flatB_2 _ _ (by rw [HCL.out]; exact hlt)] at d2
      have S1 := (o2.stored (k * 3) (.int .i8 x)).1
      have S2 := (S1.stored (k * 3 + 1) (.int .i8 y)).1
      have S3 := (S2.stored (k * 3 + 2) (.int .i8 z)).1
      rw [flatB_set _ _ _ _ _ (by rw [HCL.out]; exact hlt)] at S3
      have HS := Lib.hid S3
      have HB2 : Hid (Below w.heap.size w w2) := Lib.hid (HB.out.trans (b2.mono hwr))
      clear o2 S1 S2 S3 b2
      go_wp2_with fail
      go_roundw
      case rel => exact ⟨k + 1, by omega, by go_num, by rw [← copiedB_set ps k hlt, HP.out]; exact HS.out, ((HB2.out.setCell (Nat.le_refl _) _).setCell (Nat.le_refl _) _).setCell (Nat.le_refl _) _⟩
      case measure => simp [intOf]; omega
    · have hk' : k = ps.length := by omega
      have HO : Hid (OwnB 38 w.heap.size wr (.slice (some ⟨w.heap.size, 0, none⟩) ps.length ps.length) ps) := Lib.hid (by rw [hk', copiedB_all] at hown; exact hown)
      have HB := Lib.hid hnx
      clear hk' hown hnx hc
      go_wp2_with fail
      go_ret
      exact ⟨rfl, HO.out, HB.out⟩

set_option maxHeartbeats 1000000 in
theorem toBoxS_zero (a : Option Addr) (cap : Nat) (w : World) :
    Calls Try.prog 6 #[.slice a 0 cap] w fun e w' => e = .returned (.slice (some ⟨w.heap.size, 0, none⟩) 0 0) ∧ OwnB 38 w.heap.size w' (.slice (some ⟨w.heap.size, 0, none⟩) 0 0) [] ∧ Below w.heap.size w w' := by
  obtain ⟨i0, hi, hz0, hz1, hz2⟩ := info_parts info_box
  go_enter Try.func6, Try.ntmps6
  go_wp2_with (refine wpList_make_full _ rfl _ _ 27 rfl w.heap.size 38 i0 (.agg #[.int .i8 0, .int .i8 0, .int .i8 0]) 3 Try.underlying27 hi hz0 hz1 .i64 .i64 _ _ 0 rfl rfl rfl rfl (by omega) (by unfold maxLen; omega) (Nat.le_refl _) ?_; intro w1 hown1 hg1)
  have HO := Lib.hid hown1
  have HG := Lib.hid hg1
  clear hown1 hg1
  refine wp_loop_rounds 1 ?_
  rw [rounds_succ]
  go_wp2
  go_ret
  exact ⟨rfl, by have h := HO.out; rw [made_boxes] at h; exact h, (Below.refl _ _).grown HG.out (Nat.le_refl _) (fun k hk => by simp at hk)⟩

/-- toBoxS on whatever row came in. -/
theorem toBoxS_any (a : Option Addr) (len cap : Nat) (ps : List Tri) (w : World) (h : IsRowB w a len cap ps) (hm : len ≤ 1048576) :
    Calls Try.prog 6 #[.slice a len cap] w fun e w' => e = .returned (.slice (some ⟨w.heap.size, 0, none⟩) len len) ∧ OwnB 38 w.heap.size w' (.slice (some ⟨w.heap.size, 0, none⟩) len len) ps ∧ Below w.heap.size w w' := by
  rcases h with ⟨rfl, rfl, rfl, rfl⟩ | ⟨x, rfl, hl, hx, hz, hcell⟩
  · exact toBoxS_zero none 0 w
  · by_cases h0 : len = 0
    · subst h0
      have e : ps = [] := List.eq_nil_of_length_eq_zero hz
      subst e
      exact toBoxS_zero (some x) cap w
    · obtain ⟨b, off, spot⟩ := x
      have hspot : spot = none := by simpa [Addr.add] using World.cell?_spot (hcell 0 (by omega)).1
      subst hspot
      refine toBoxS_row b off len cap ps hz hm w fun i hi => ?_
      have h1 := hcell i (by omega)
      rw [addr_add, addr_add, addr_add] at h1
      exact ⟨h1.1, by rw [Nat.add_assoc]; exact h1.2.1, by rw [Nat.add_assoc]; exact h1.2.2⟩

theorem szBox_any (a : Option Addr) (len cap : Nat) (hm : len ≤ 1048576) (w : World) :
    Calls Try.prog 4 #[.slice a len cap, .int .i64 1048576] w fun e w' => e = .returned (.int .i64 (1048576 - len)) ∧ w = w' := by
  have t1 : decide ((1048576 : Int) - (len : Int) < 0) = false := by simp; omega
  go_enter Try.func4, Try.ntmps4
  go_wp2
  go_ret
  exact ⟨rfl, rfl⟩
theorem szBox_big (a : Option Addr) (len cap : Nat) (hm : ¬ len ≤ 1048576) (hb : len ≤ 9223372036854775807) (w : World) :
    Calls Try.prog 4 #[.slice a len cap, .int .i64 1048576] w fun e w' => e = .returned (.int .i64 (-1)) ∧ w = w' := by
  have t1 : decide ((1048576 : Int) - (len : Int) < 0) = true := by simp; omega
  go_enter Try.func4, Try.ntmps4
  go_wp2
  go_ret
  exact ⟨rfl, rfl⟩
end Go.Proofs.Ytgdekplkadnmpaa
