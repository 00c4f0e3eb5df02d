/-
  Contracts of markVoucherS and heldVoucherS.
-/
import Derived.Test.YtbclmafplaipaaaDoorRVoucher
import Derived.Test.YtbclmafplaipaaaDoorGrownT
namespace Go.Proofs.YtbclmafplaipaaaDoor
open Go Go.RowKit
set_option linter.unusedVariables false

/-- The marks k, k + 1, .. of m elements, as their fields hold them. -/
def mkVo (k : Int) (i : Nat) : Int × Int := (IntKind.i32.wrap (k + 2 * (i : Int)), IntKind.i16.wrap (k + 2 * (i : Int) + 1))
def iotaVo (k : Int) (m : Nat) : List (Int × Int) := (List.range m).map (mkVo k)
theorem iotaVo_length (k : Int) (m : Nat) : (iotaVo k m).length = m := by simp [iotaVo]
theorem iotaVo_get (k : Int) (m i : Nat) (h : i < m) : (iotaVo k m).getD i (0, 0) = mkVo k i := by simp [iotaVo, List.getD, h]
def markedVo (k : Int) (ps : List (Int × Int)) (j : Nat) : List (Int × Int) := iotaVo k j ++ ps.drop j
theorem markedVo_length (k : Int) (ps : List (Int × Int)) (j : Nat) (h : j ≤ ps.length) : (markedVo k ps j).length = ps.length := by simp [markedVo, iotaVo_length]; omega
theorem markedVo_zero (k : Int) (ps : List (Int × Int)) : markedVo k ps 0 = ps := by simp [markedVo, iotaVo]
theorem markedVo_all (k : Int) (ps : List (Int × Int)) : markedVo k ps ps.length = iotaVo k ps.length := by simp [markedVo]
theorem markedVo_set (k : Int) (ps : List (Int × Int)) (j : Nat) (h : j < ps.length) : (markedVo k ps j).set j (mkVo k j) = markedVo k ps (j + 1) := by
  unfold markedVo
  rw [List.set_append_right _ _ (by simp [iotaVo_length]), iotaVo_length, Nat.sub_self, List.drop_eq_getElem_cons h, List.set_cons_zero]
  simp [iotaVo, List.range_succ]

set_option maxHeartbeats 2000000 in
set_option maxRecDepth 100000 in
theorem markVo_row (T : TypeId) (B g cap : Nat) (ps : List (Int × Int)) (k0 : Int) (w : World) (hown : OwnVo T B w (.slice (some ⟨g, 0, none⟩) ps.length cap) ps) (h0 : 0 ≤ k0) (h1 : k0 ≤ 16777216) (hx : ps.length ≤ 1048576) :
    Calls Tryd.prog 48 #[.slice (some ⟨g, 0, none⟩) ps.length cap, .int .i64 k0] w fun e w' => e = .returned (.int .i64 (k0 + 2 * ps.length)) ∧ OwnVo T B w' (.slice (some ⟨g, 0, none⟩) ps.length cap) (iotaVo k0 ps.length) ∧ w.grownBy w' (some g) := by
  go_enter Tryd.func48, Tryd.ntmps48
  go_wp2
  go_loopw [1, 5] (fun q i wr => ∃ j : Nat, j ≤ ps.length ∧ i = .int .i64 j ∧ q = .int .i64 (k0 + 2 * j) ∧ wr.ownsRow B T 2 (.slice (some ⟨g, 0, none⟩) ps.length cap) ps.length (flatVo (markedVo k0 ps j)) ∧ w.grownBy wr (some g)) (fun _ i _ => ps.length - (intOf i).toNat)
  case atStart => exact ⟨0, Nat.zero_le _, rfl, by simp, by rw [markedVo_zero]; exact hown, World.grownBy.refl _ _⟩
  case round =>
    obtain ⟨j, hj, rfl, rfl, hor, hgr⟩ := hrel
    have HG := Lib.hid hgr
    by_cases hlt : j < ps.length
    · have hml : (markedVo k0 ps j).length = ps.length := markedVo_length k0 ps j hj
      have c0 := hor.cellAt (j * 2) (by omega)
      have c1 := hor.cellAt (j * 2 + 1) (by omega)
      rw [flatVo_0 _ _ (by rw [hml]; exact hlt)] at c0
      rw [flatVo_1 _ _ (by rw [hml]; exact hlt)] at c1
      have f0 := hor.frozenAt (j * 2)
      have f1 := hor.frozenAt (j * 2 + 1)
      obtain ⟨y, hy⟩ : ∃ y, (markedVo k0 ps j).getD j (0, 0) = y := ⟨_, rfl⟩
      rw [hy] at c0 c1
      obtain ⟨x0, x1⟩ := y
      have S1 := hor.stored (j * 2) (.int .i32 (IntKind.i32.wrap (k0 + 2 * (j : Int))))
      have S2 := S1.1.stored (j * 2 + 1) (.int .i16 (IntKind.i16.wrap (k0 + 2 * (j : Int) + 1)))
      have SS := S2.1
      rw [flatVo_set _ _ _ _ (by rw [hml]; exact hlt)] at SS
      rw [show (IntKind.i32.wrap (k0 + 2 * (j : Int)), IntKind.i16.wrap (k0 + 2 * (j : Int) + 1)) = mkVo k0 j from rfl, markedVo_set k0 ps j hlt] at SS
      have HS := Lib.hid SS
      have HGG := Lib.hid (grown_trans' S1.2 (S2.2))
      have hw : IntKind.i32.wrap (k0 + 2 * (j : Int)) = k0 + 2 * (j : Int) := IntWalk.i32_in _ (by omega)
      rw [hw] at HS HGG
      clear hw
      clear S1 S2 SS hor hown hgr hy hml
      go_wp2
      go_roundw
      case rel => exact ⟨j + 1, by omega, by go_num, by go_num, HS.out, grown_trans' HG.out HGG.out⟩
      case measure => simp [intOf]; omega
    · have hj' : j = ps.length := by omega
      have HO : Hid (wr.ownsRow B T 2 (.slice (some ⟨g, 0, none⟩) ps.length cap) ps.length (flatVo (iotaVo k0 ps.length))) := Lib.hid (by rw [hj', markedVo_all] at hor; exact hor)
      have HJ := Lib.hid hj'
      clear hor hown hgr hj'
      go_wp2
      go_ret
      refine ⟨by rw [HJ.out]; rfl, ?_, HG.out⟩
      have h := HO.out
      unfold OwnVo
      rw [iotaVo_length]
      exact h

set_option maxHeartbeats 1000000 in
theorem markVo_nil (k0 : Int) (w : World) :
    Calls Tryd.prog 48 #[.slice none 0 0, .int .i64 k0] w fun e w' => e = .returned (.int .i64 k0) ∧ w = w' := by
  go_enter Tryd.func48, Tryd.ntmps48
  go_wp2
  refine wp_loop_rounds 1 ?_
  rw [rounds_succ]
  go_wp2
  go_ret
  exact ⟨rfl, rfl⟩

theorem markVo_any (T : TypeId) (B : Nat) (v : Value) (ps : List (Int × Int)) (k0 : Int) (w : World) (hown : OwnVo T B w v ps) (h0 : 0 ≤ k0) (h1 : k0 ≤ 16777216) (hx : ps.length ≤ 1048576) :
    Calls Tryd.prog 48 #[v, .int .i64 k0] w fun e w' => e = .returned (.int .i64 (k0 + 2 * ps.length)) ∧ OwnVo T B w' v (iotaVo k0 ps.length) ∧ w.grownBy w' v.ownBlock := by
  rcases hown.cases with ⟨rfl, rfl⟩ | ⟨g, cap, rfl, _⟩
  · exact (markVo_nil k0 w).mono fun e w' ⟨he, hw⟩ => ⟨by rw [he]; simp, by subst hw; simpa [iotaVo] using hown, by subst hw; exact World.grownBy.refl _ _⟩
  · exact markVo_row T B g cap ps k0 w hown h0 h1 hx

set_option maxHeartbeats 2000000 in
set_option maxRecDepth 100000 in
theorem heldVo_row (g m cap : Nat) (k0 : Int) (w : World) (hc : CellsVo w g (iotaVo k0 m)) (h0 : 0 ≤ k0) (h1 : k0 ≤ 16777216) (hn : m ≤ 1048576) :
    Calls Tryd.prog 49 #[.slice (some ⟨g, 0, none⟩) m cap, .int .i64 k0] w fun e w' => e = .returned (.int .i64 (k0 + 2 * m)) ∧ Below w.heap.size w w' := by
  go_enter Tryd.func49, Tryd.ntmps49
  go_wp2
  go_loopw [1, 5] (fun q i wr => ∃ j : Nat, j ≤ m ∧ i = .int .i64 j ∧ q = .int .i64 (k0 + 2 * j) ∧ Below w.heap.size w wr) (fun _ i _ => m - (intOf i).toNat)
  case atStart => exact ⟨0, Nat.zero_le _, rfl, by simp, Below.refl _ _⟩
  case round =>
    obtain ⟨j, hj, rfl, rfl, hnx⟩ := hrel
    have HG := Lib.hid hnx
    by_cases hlt : j < m
    · obtain ⟨c0, c1⟩ := hc.below hnx j (by rw [iotaVo_length]; exact hlt)
      rw [iotaVo_get _ _ _ hlt] at c0 c1
      unfold mkVo at c0 c1
      simp only at c0 c1
      clear hnx hc
      go_wp2
      go_roundw
      case rel => exact ⟨j + 1, by omega, by go_num, by go_num, HG.out⟩
      case measure => simp [intOf]; omega
    · have hj' : j = m := by omega
      have HJ := Lib.hid hj'
      clear hnx hj' hc
      go_wp2
      go_ret
      exact ⟨by rw [HJ.out]; rfl, HG.out⟩

set_option maxHeartbeats 1000000 in
theorem heldVo_zero (a : Option Addr) (cap : Nat) (k0 : Int) (w : World) :
    Calls Tryd.prog 49 #[.slice a 0 cap, .int .i64 k0] w fun e w' => e = .returned (.int .i64 k0) ∧ w = w' := by
  go_enter Tryd.func49, Tryd.ntmps49
  go_wp2
  refine wp_loop_rounds 1 ?_
  rw [rounds_succ]
  go_wp2
  go_ret
  exact ⟨rfl, rfl⟩

theorem heldVo_any (v : Value) (m : Nat) (k0 : Int) (w : World) (hv : ReadsVo w v (iotaVo k0 m)) (h0 : 0 ≤ k0) (h1 : k0 ≤ 16777216) (hn : m ≤ 1048576) :
    Calls Tryd.prog 49 #[v, .int .i64 k0] w fun e w' => e = .returned (.int .i64 (k0 + 2 * m)) ∧ Below w.heap.size w w' := by
  obtain ⟨a, cap, rfl, h⟩ := hv
  rw [iotaVo_length]
  by_cases hz : m = 0
  · subst hz
    exact (heldVo_zero a cap k0 w).mono fun e w' ⟨he, hw⟩ => ⟨by rw [he]; simp, by subst hw; exact Below.refl _ _⟩
  · obtain ⟨b, rfl, hc⟩ := h (fun e => hz (by rw [← iotaVo_length k0 m, e]; rfl))
    exact heldVo_row b m cap k0 w hc h0 h1 hn

theorem flatVo_cells {w : World} {b : Nat} {ps : List (Int × Int)} (h : CellsVo w b ps) : ∀ j u, (flatVo ps)[j]? = some u → w.cell? ((⟨b, 0, none⟩ : Addr).add j) = some u := by
  intro j u hj
  have hjl : j < ps.length * 2 := by
    have := (List.getElem?_eq_some_iff.1 hj).1
    rwa [flatVo_length] at this
  rw [addr_add, Nat.zero_add]
  have h2 : j = (j / 2) * 2 ∨ j = (j / 2) * 2 + 1 := by omega
  obtain ⟨g0, g1⟩ := h (j / 2) (by omega)
  rcases h2 with h2 | h2
  · rw [h2, flatVo_0 _ _ (by omega)] at hj
    rw [h2, g0]; exact hj
  · rw [h2, flatVo_1 _ _ (by omega)] at hj
    rw [h2, g1]; exact hj
theorem flatVo_ones (ps : List (Int × Int)) : ∀ u ∈ flatVo ps, u.oneCell' = true := by
  intro u hu
  simp only [flatVo, flatE, List.mem_flatMap, encVo, List.mem_cons, List.not_mem_nil, or_false] at hu
  obtain ⟨a, _, rfl | rfl⟩ := hu <;> rfl
end Go.Proofs.YtbclmafplaipaaaDoor
