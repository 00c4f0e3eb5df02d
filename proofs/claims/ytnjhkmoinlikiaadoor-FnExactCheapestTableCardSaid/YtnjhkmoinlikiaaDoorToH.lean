/-
  Contracts of the laws' own helpers over []int16: toInt16S (a copy in new memory) and eqInt16S.
-/
import Derived.Test.YtnjhkmoinlikiaaDoorBaseH
import Derived.Test.YtnjhkmoinlikiaaDoorToJ
import Derived.Test.YtnjhkmoinlikiaaDoorProg
namespace Go.Proofs.YtnjhkmoinlikiaaDoor
open Go Go.RowKit
set_option linter.unusedVariables false

theorem info_i16 : (Tryd.prog.info? 51).map (fun i => (i.zero, i.size, i.bytes)) = some (some (.int .i16 0), 1, 2) := by kernel_rfl

theorem copied_map_setH (xs : List Int) (k : Nat) (h : k < xs.length) : ((copied xs k).map (Value.int .i16)).set k (.int .i16 (xs.getD k 0)) = (copied xs (k + 1)).map (Value.int .i16) := by
  rw [← copied_set xs k h, List.map_set]

set_option maxHeartbeats 1000000 in
set_option maxRecDepth 100000 in
/-- toInt16S on a row that came in, wherever it begins: a copy in the block that is made next. -/
theorem toH_row (b off len cap : Nat) (xs : List Int) (hl : xs.length = len) (hm : len ≤ 1048576) (w : World) (hc : ∀ i, i < len → w.cell? ⟨b, off + i, none⟩ = some (.int .i16 (xs.getD i 0))) :
    Calls Tryd.prog 23 #[.slice (some ⟨b, off, none⟩) len cap] w fun e w' => e = .returned (.slice (some ⟨w.heap.size, 0, none⟩) len len) ∧ OwnH w.heap.size w' (.slice (some ⟨w.heap.size, 0, none⟩) len len) xs ∧ Below w.heap.size w w' := by
  subst hl
  obtain ⟨i0, hi, hz0, hz1, hz2⟩ := info_parts info_i16
  go_enter Tryd.func23, Tryd.ntmps23
  go_wp2_with (refine wpList_make_full _ rfl _ _ 31 rfl w.heap.size 51 i0 (.int .i16 0) 1 Tryd.underlying31 hi hz0 hz1 .i64 .i64 _ _ xs.length rfl rfl rfl rfl (by rw [hz2]; omega) (by unfold maxLen; omega) (Nat.le_refl _) ?_; intro w1 hown1 hg1)
  have hs1 : w.heap.size < w1.heap.size := (hown1.lt w.heap.size rfl).2
  go_loopw [4] (fun i wr => ∃ k : Nat, k ≤ xs.length ∧ i = .int .i64 k ∧ wr.ownsRow w.heap.size 51 1 (.slice (some ⟨w.heap.size, 0, none⟩) xs.length xs.length) xs.length ((copied xs k).map (Value.int .i16)) ∧ Below w.heap.size w wr) (fun i _ => xs.length - (intOf i).toNat)
  case atStart =>
    refine ⟨0, Nat.zero_le _, rfl, ?_, (Below.refl _ _).grown hg1 (Nat.le_refl _) (fun k hk => by simp at hk)⟩
    rw [copied_zero, List.map_replicate]
    have e : (madeCells (Value.int .i16 0).cells (xs.length * 1)).toList = List.replicate xs.length (.int .i16 0) := by rw [Nat.mul_one]; exact toList_madeCells_one _ _
    rw [← e]
    exact hown1
  case round =>
    obtain ⟨k, hk, rfl, hown, hnx⟩ := hrel
    by_cases hlt : k < xs.length
    · have hcx : wr.cell? ⟨b, off + k, none⟩ = some (.int .i16 (xs.getD k 0)) := by
        have h0 := hc k hlt
        rw [hnx.cell (p := ⟨b, off + k, none⟩) (World.block_lt_of_cell? w _ h0)]
        exact h0
      have hco : wr.cell? ⟨w.heap.size, k, none⟩ = some (.int .i16 ((copied xs k).getD k 0)) := by
        rw [hown.cellAt k (by omega)]
        have := copied_length xs k hk
        simp [List.getD, this, hlt]
      have hfo : wr.frozen? ⟨w.heap.size, k, none⟩ = false := hown.frozenAt k
      have S := hown.stored k (.int .i16 (xs.getD k 0))
      rw [copied_map_setH xs k hlt] at S
      obtain ⟨x, hx⟩ : ∃ x, xs.getD k 0 = x := ⟨_, rfl⟩
      rw [hx] at S hcx
      clear hx
      have HS := Lib.hid S
      have HC := Lib.hid hc
      have HB := Lib.hid hnx
      clear S hown hc hown1 hnx
      go_wp2
      go_roundw
      case rel => exact ⟨k + 1, by omega, by go_num, HS.out.1, HB.out.setCell (Nat.le_refl _) _⟩
      case measure => simp [intOf]; omega
    · have HB := Lib.hid hnx
      have hk' : k = xs.length := by omega
      have HO : Hid (wr.ownsRow w.heap.size 51 1 (.slice (some ⟨w.heap.size, 0, none⟩) xs.length xs.length) xs.length (xs.map (Value.int .i16))) := Lib.hid (by rw [hk', copied_all] at hown; exact hown)
      clear hown hnx hown1 hk'
      go_wp2
      go_ret
      exact ⟨rfl, HO.out, HB.out⟩

set_option maxHeartbeats 1000000 in
/-- toInt16S on an empty slice. -/
theorem toH_zero (a : Option Addr) (cap : Nat) (w : World) :
    Calls Tryd.prog 23 #[.slice a 0 cap] w fun e w' => e = .returned (.slice (some ⟨w.heap.size, 0, none⟩) 0 0) ∧ OwnH w.heap.size w' (.slice (some ⟨w.heap.size, 0, none⟩) 0 0) [] ∧ Below w.heap.size w w' := by
  obtain ⟨i0, hi, hz0, hz1, hz2⟩ := info_parts info_i16
  go_enter Tryd.func23, Tryd.ntmps23
  go_wp2_with (refine wpList_make_full _ rfl _ _ 31 rfl w.heap.size 51 i0 (.int .i16 0) 1 Tryd.underlying31 hi hz0 hz1 .i64 .i64 _ _ 0 rfl rfl rfl rfl (by omega) (by unfold maxLen; omega) (Nat.le_refl _) ?_; intro w1 hown1 hg1)
  have HO := Lib.hid hown1
  have HG := Lib.hid hg1
  clear hown1 hg1
  refine wp_loop_rounds 1 ?_
  rw [rounds_succ]
  go_wp2
  go_ret
  exact ⟨rfl, by have h := HO.out; simpa [OwnH, madeCells] using h, (Below.refl _ _).grown HG.out (Nat.le_refl _) (fun k hk => by simp at hk)⟩

/-- toInt16S on whatever row came in. -/
theorem toH_any (a : Option Addr) (len cap : Nat) (z : List Int) (w : World) (h : IsRow .i16 w a len cap z) (hm : len ≤ 1048576) :
    Calls Tryd.prog 23 #[.slice a len cap] w fun e w' => e = .returned (.slice (some ⟨w.heap.size, 0, none⟩) len len) ∧ OwnH w.heap.size w' (.slice (some ⟨w.heap.size, 0, none⟩) len len) (z.take len) ∧ Below w.heap.size w w' := by
  rcases h with ⟨rfl, rfl, rfl, rfl⟩ | ⟨x, rfl, hl, hx, hz, hcell, hwz⟩
  · exact toH_zero none 0 w
  · by_cases h0 : len = 0
    · subst h0
      exact toH_zero (some x) cap w
    · obtain ⟨b, off, spot⟩ := x
      have hspot : spot = none := by simpa [Addr.add] using World.cell?_spot (hcell 0 (by omega))
      subst hspot
      refine toH_row b off len cap (z.take len) (by simp; omega) hm w fun i hi => ?_
      have h1 := hcell i (by omega)
      rw [addr_add] at h1
      rw [h1]
      simp [hi]

/-- .. under a name for what the row reads as. -/
theorem toH_as (a : Option Addr) (len cap : Nat) (z xs : List Int) (hxs : Hid (z.take len = xs)) (w : World) (h : IsRow .i16 w a len cap z) (hm : len ≤ 1048576) :
    Calls Tryd.prog 23 #[.slice a len cap] w fun e w' => e = .returned (.slice (some ⟨w.heap.size, 0, none⟩) len len) ∧ OwnH w.heap.size w' (.slice (some ⟨w.heap.size, 0, none⟩) len len) xs ∧ Below w.heap.size w w' := by
  have h1 := hxs.out
  subst h1
  exact toH_any a len cap z w h hm

set_option maxHeartbeats 1000000 in
/-- eqInt16S tells whether two slices read as the same list. -/
theorem eqH_row (b c len cap cap2 : Nat) (xs ys : List Int) (hx : xs.length = len) (hy : ys.length = len) (hm : len ≤ 1048576) (w : World) (hcx : CellsH w b xs) (hcy : CellsH w c ys) :
    Calls Tryd.prog 28 #[.slice (some ⟨b, 0, none⟩) len cap, .slice (some ⟨c, 0, none⟩) len cap2] w fun e w' => e = .returned (.bool (eqB xs ys)) ∧ Below w.heap.size w w' := by
  go_enter Tryd.func28, Tryd.ntmps28
  go_wp2
  go_loopw [5] (fun i wr => ∃ k : Nat, k ≤ len ∧ i = .int .i64 k ∧ xs.take k = ys.take k ∧ Below w.heap.size w wr) (fun i _ => len - (intOf i).toNat)
  case atStart => exact ⟨0, Nat.zero_le _, rfl, by simp, Below.refl _ _⟩
  case round =>
    obtain ⟨k, hk, rfl, htk, hnx⟩ := hrel
    have HT := Lib.hid htk
    have HB := Lib.hid hnx
    have HX := Lib.hid hx
    have HY := Lib.hid hy
    by_cases hlt : k < len
    · have cx := hcx.below hnx k (by omega)
      have cy := hcy.below hnx k (by omega)
      obtain ⟨x, hxk⟩ : ∃ x, xs.getD k 0 = x := ⟨_, rfl⟩
      obtain ⟨y, hyk⟩ : ∃ y, ys.getD k 0 = y := ⟨_, rfl⟩
      rw [hxk] at cx
      rw [hyk] at cy
      have HXK := Lib.hid hxk
      have HYK := Lib.hid hyk
      have HCX := Lib.hid hcx
      have HCY := Lib.hid hcy
      clear hcx hcy hx hy htk hnx hxk hyk
      have hkl : (k : Int) < (len : Int) := by omega
      by_cases hxy : x = y
      · subst hxy
        go_wp2
        go_quiet (fail)
        go_wp2
        go_roundw
        case rel => exact ⟨k + 1, by omega, by go_num, take_step (by have := HX.out; omega) (by have := HY.out; omega) HT.out (HXK.out.trans HYK.out.symm), below_drewN HB.out _⟩
        case measure => simp [intOf]; omega
      · go_wp2
        go_quiet (fail)
        go_wp2
        go_ret
        exact ⟨ret_bool (eqB_false (fun h => hxy (by rw [← HXK.out, ← HYK.out, h]))).symm, below_drewN HB.out _⟩
    · clear hcx hcy hx hy htk hnx
      have hke : k = len := by omega
      have HE := Lib.hid hke
      clear hke
      go_wp2
      go_ret
      refine ⟨ret_bool (eqB_true ?_).symm, HB.out⟩
      have h := HT.out
      rw [HE.out, List.take_of_length_le (by rw [HX.out]; omega), List.take_of_length_le (by rw [HY.out]; omega)] at h
      exact h

set_option maxHeartbeats 1000000 in
theorem eqH_differ (a c : Option Addr) (l m cap cap2 : Nat) (hne : l ≠ m) (hl : l ≤ 1048576) (hm : m ≤ 1048576) (w : World) :
    Calls Tryd.prog 28 #[.slice a l cap, .slice c m cap2] w fun e w' => e = .returned (.bool false) ∧ Below w.heap.size w w' := by
  have hb : ((l : Int) != (m : Int)) = true := by simp; omega
  go_enter Tryd.func28, Tryd.ntmps28
  go_wp2
  go_ret
  exact ⟨rfl, Below.refl _ _⟩

set_option maxHeartbeats 1000000 in
theorem eqH_empty (a c : Option Addr) (cap cap2 : Nat) (w : World) :
    Calls Tryd.prog 28 #[.slice a 0 cap, .slice c 0 cap2] w fun e w' => e = .returned (.bool true) ∧ Below w.heap.size w w' := by
  go_enter Tryd.func28, Tryd.ntmps28
  go_wp2
  refine wp_loop_rounds 1 ?_
  rw [rounds_succ]
  go_wp2
  go_ret
  exact ⟨rfl, Below.refl _ _⟩

/-- eqInt16S on any two slices that read as lists. -/
theorem eqH_any (v u : Value) (xs ys : List Int) (w : World) (hv : ReadsH w v xs) (hu : ReadsH w u ys) (hx : xs.length ≤ 1048576) (hy : ys.length ≤ 1048576) :
    Calls Tryd.prog 28 #[v, u] w fun e w' => e = .returned (.bool (eqB xs ys)) ∧ Below w.heap.size w w' := by
  obtain ⟨a, cap, rfl, ha⟩ := hv
  obtain ⟨c, cap2, rfl, hc⟩ := hu
  by_cases hl : xs.length = ys.length
  · by_cases h0 : xs = []
    · subst h0
      have h1 : ys = [] := List.eq_nil_of_length_eq_zero hl.symm
      subst h1
      exact eqH_empty a c cap cap2 w
    · have h1 : ys ≠ [] := fun h => h0 (List.eq_nil_of_length_eq_zero (by rw [hl, h]; rfl))
      obtain ⟨b1, rfl, c1⟩ := ha h0
      obtain ⟨b2, rfl, c2⟩ := hc h1
      rw [← hl]
      exact eqH_row b1 b2 xs.length cap cap2 xs ys rfl hl.symm hx w c1 c2
  · rw [eqB_false (fun h => hl (by rw [h]))]
    exact eqH_differ a c xs.length ys.length cap cap2 hl hx hy w
end Go.Proofs.YtnjhkmoinlikiaaDoor
