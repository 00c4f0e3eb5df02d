/-
  Contracts of markBoxS and heldBoxS.
-/
import Derived.Test.YtbclmafplaipaaaDoorTripTo
import Derived.Test.YtbclmafplaipaaaDoorGrownT
namespace Go.Proofs.YtbclmafplaipaaaDoor
open Go Go.RowKit
set_option linter.unusedVariables false

/-- The marks k, k + 1, .. of m elements, as their fields hold them. -/
def mkB (k : Int) (i : Nat) : Int × Int × Int := (IntKind.i8.wrap (k + 3 * (i : Int)), IntKind.i8.wrap (k + 3 * (i : Int) + 1), IntKind.i8.wrap (k + 3 * (i : Int) + 1 + 1))
def iotaB (k : Int) (m : Nat) : List (Int × Int × Int) := (List.range m).map (mkB k)
theorem iotaB_length (k : Int) (m : Nat) : (iotaB k m).length = m := by simp [iotaB]
theorem iotaB_get (k : Int) (m i : Nat) (h : i < m) : (iotaB k m).getD i (0, 0, 0) = mkB k i := by simp [iotaB, List.getD, h]
def markedB (k : Int) (ps : List (Int × Int × Int)) (j : Nat) : List (Int × Int × Int) := iotaB k j ++ ps.drop j
theorem markedB_length (k : Int) (ps : List (Int × Int × Int)) (j : Nat) (h : j ≤ ps.length) : (markedB k ps j).length = ps.length := by simp [markedB, iotaB_length]; omega
theorem markedB_zero (k : Int) (ps : List (Int × Int × Int)) : markedB k ps 0 = ps := by simp [markedB, iotaB]
theorem markedB_all (k : Int) (ps : List (Int × Int × Int)) : markedB k ps ps.length = iotaB k ps.length := by simp [markedB]
theorem markedB_set (k : Int) (ps : List (Int × Int × Int)) (j : Nat) (h : j < ps.length) : (markedB k ps j).set j (mkB k j) = markedB k ps (j + 1) := by
  unfold markedB
  rw [List.set_append_right _ _ (by simp [iotaB_length]), iotaB_length, Nat.sub_self, List.drop_eq_getElem_cons h, List.set_cons_zero]
  simp [iotaB, List.range_succ]

set_option maxHeartbeats 2000000 in
set_option maxRecDepth 100000 in
theorem markB_row (T : TypeId) (B g cap : Nat) (ps : List (Int × Int × Int)) (k0 : Int) (w : World) (hown : OwnB T B w (.slice (some ⟨g, 0, none⟩) ps.length cap) ps) (h0 : 0 ≤ k0) (h1 : k0 ≤ 1048576) (hx : ps.length ≤ 1048576) :
    Calls Tryd.prog 19 #[.slice (some ⟨g, 0, none⟩) ps.length cap, .int .i64 k0] w fun e w' => e = .returned (.int .i64 (k0 + 3 * ps.length)) ∧ OwnB T B w' (.slice (some ⟨g, 0, none⟩) ps.length cap) (iotaB k0 ps.length) ∧ w.grownBy w' (some g) := by
  go_enter Tryd.func19, Tryd.ntmps19
  go_wp2
  go_loopw [1, 5] (fun q i wr => ∃ j : Nat, j ≤ ps.length ∧ i = .int .i64 j ∧ q = .int .i64 (k0 + 3 * j) ∧ wr.ownsRow B T 3 (.slice (some ⟨g, 0, none⟩) ps.length cap) ps.length (flatB (markedB k0 ps j)) ∧ w.grownBy wr (some g)) (fun _ i _ => ps.length - (intOf i).toNat)
  case atStart => exact ⟨0, Nat.zero_le _, rfl, by simp, by rw [markedB_zero]; exact hown, World.grownBy.refl _ _⟩
  case round =>
    obtain ⟨j, hj, rfl, rfl, hor, hgr⟩ := hrel
    have HG := Lib.hid hgr
    by_cases hlt : j < ps.length
    · have hml : (markedB k0 ps j).length = ps.length := markedB_length k0 ps j hj
      have c0 := hor.cellAt (j * 3) (by omega)
      have c1 := hor.cellAt (j * 3 + 1) (by omega)
      have c2 := hor.cellAt (j * 3 + 2) (by omega)
      rw [flatB_0 _ _ (by rw [hml]; exact hlt)] at c0
      rw [flatB_1 _ _ (by rw [hml]; exact hlt)] at c1
      rw [flatB_2 _ _ (by rw [hml]; exact hlt)] at c2
      have f0 := hor.frozenAt (j * 3)
      have f1 := hor.frozenAt (j * 3 + 1)
      have f2 := hor.frozenAt (j * 3 + 2)
      obtain ⟨y, hy⟩ : ∃ y, (markedB k0 ps j).getD j (0, 0, 0) = y := ⟨_, rfl⟩
      rw [hy] at c0 c1 c2
      obtain ⟨x0, x1, x2⟩ := y
      have S1 := hor.stored (j * 3) (.int .i8 (IntKind.i8.wrap (k0 + 3 * (j : Int))))
      have S2 := S1.1.stored (j * 3 + 1) (.int .i8 (IntKind.i8.wrap (k0 + 3 * (j : Int) + 1)))
      have S3 := S2.1.stored (j * 3 + 2) (.int .i8 (IntKind.i8.wrap (k0 + 3 * (j : Int) + 1 + 1)))
      have SS := S3.1
      rw [flatB_set _ _ _ _ _ (by rw [hml]; exact hlt)] at SS
      rw [show (IntKind.i8.wrap (k0 + 3 * (j : Int)), IntKind.i8.wrap (k0 + 3 * (j : Int) + 1), IntKind.i8.wrap (k0 + 3 * (j : Int) + 1 + 1)) = mkB k0 j from rfl, markedB_set k0 ps j hlt] at SS
      have HS := Lib.hid SS
      have HGG := Lib.hid (grown_trans' S1.2 (grown_trans' S2.2 (S3.2)))
      clear S1 S2 S3 SS hor hown hgr hy hml
      go_wp2
      go_roundw
      case rel => exact ⟨j + 1, by omega, by go_num, by go_num, HS.out, grown_trans' HG.out HGG.out⟩
      case measure => simp [intOf]; omega
    · have hj' : j = ps.length := by omega
      have HO : Hid (wr.ownsRow B T 3 (.slice (some ⟨g, 0, none⟩) ps.length cap) ps.length (flatB (iotaB k0 ps.length))) := Lib.hid (by rw [hj', markedB_all] at hor; exact hor)
      have HJ := Lib.hid hj'
      clear hor hown hgr hj'
      go_wp2
      go_ret
      refine ⟨by rw [HJ.out]; rfl, ?_, HG.out⟩
      have h := HO.out
      unfold OwnB
      rw [iotaB_length]
      exact h

set_option maxHeartbeats 1000000 in
theorem markB_nil (k0 : Int) (w : World) :
    Calls Tryd.prog 19 #[.slice none 0 0, .int .i64 k0] w fun e w' => e = .returned (.int .i64 k0) ∧ w = w' := by
  go_enter Tryd.func19, Tryd.ntmps19
  go_wp2
  refine wp_loop_rounds 1 ?_
  rw [rounds_succ]
  go_wp2
  go_ret
  exact ⟨rfl, rfl⟩

theorem markB_any (T : TypeId) (B : Nat) (v : Value) (ps : List (Int × Int × Int)) (k0 : Int) (w : World) (hown : OwnB T B w v ps) (h0 : 0 ≤ k0) (h1 : k0 ≤ 1048576) (hx : ps.length ≤ 1048576) :
    Calls Tryd.prog 19 #[v, .int .i64 k0] w fun e w' => e = .returned (.int .i64 (k0 + 3 * ps.length)) ∧ OwnB T B w' v (iotaB k0 ps.length) ∧ w.grownBy w' v.ownBlock := by
  rcases hown.cases with ⟨rfl, rfl⟩ | ⟨g, cap, rfl, _⟩
  · exact (markB_nil k0 w).mono fun e w' ⟨he, hw⟩ => ⟨by rw [he]; simp, by subst hw; simpa [iotaB] using hown, by subst hw; exact World.grownBy.refl _ _⟩
  · exact markB_row T B g cap ps k0 w hown h0 h1 hx

set_option maxHeartbeats 2000000 in
set_option maxRecDepth 100000 in
theorem heldB_row (g m cap : Nat) (k0 : Int) (w : World) (hc : CellsB w g (iotaB k0 m)) (h0 : 0 ≤ k0) (h1 : k0 ≤ 1048576) (hn : m ≤ 1048576) :
    Calls Tryd.prog 20 #[.slice (some ⟨g, 0, none⟩) m cap, .int .i64 k0] w fun e w' => e = .returned (.int .i64 (k0 + 3 * m)) ∧ Below w.heap.size w w' := by
  go_enter Tryd.func20, Tryd.ntmps20
  go_wp2
  go_loopw [1, 5] (fun q i wr => ∃ j : Nat, j ≤ m ∧ i = .int .i64 j ∧ q = .int .i64 (k0 + 3 * j) ∧ Below w.heap.size w wr) (fun _ i _ => m - (intOf i).toNat)
  case atStart => exact ⟨0, Nat.zero_le _, rfl, by simp, Below.refl _ _⟩
  case round =>
    obtain ⟨j, hj, rfl, rfl, hnx⟩ := hrel
    have HG := Lib.hid hnx
    by_cases hlt : j < m
    · obtain ⟨c0, c1, c2⟩ := hc.below hnx j (by rw [iotaB_length]; exact hlt)
      rw [iotaB_get _ _ _ hlt] at c0 c1 c2
      unfold mkB at c0 c1 c2
      simp only at c0 c1 c2
      clear hnx hc
      go_wp2
      go_roundw
      case rel => exact ⟨j + 1, by omega, by go_num, by go_num, HG.out⟩
      case measure => simp [intOf]; omega
    · have hj' : j = m := by omega
      have HJ := Lib.hid hj'
      clear hnx hj' hc
      go_wp2
      go_ret
      exact ⟨by rw [HJ.out]; rfl, HG.out⟩

set_option maxHeartbeats 1000000 in
theorem heldB_zero (a : Option Addr) (cap : Nat) (k0 : Int) (w : World) :
    Calls Tryd.prog 20 #[.slice a 0 cap, .int .i64 k0] w fun e w' => e = .returned (.int .i64 k0) ∧ w = w' := by
  go_enter Tryd.func20, Tryd.ntmps20
  go_wp2
  refine wp_loop_rounds 1 ?_
  rw [rounds_succ]
  go_wp2
  go_ret
  exact ⟨rfl, rfl⟩

theorem heldB_any (v : Value) (m : Nat) (k0 : Int) (w : World) (hv : ReadsB w v (iotaB k0 m)) (h0 : 0 ≤ k0) (h1 : k0 ≤ 1048576) (hn : m ≤ 1048576) :
    Calls Tryd.prog 20 #[v, .int .i64 k0] w fun e w' => e = .returned (.int .i64 (k0 + 3 * m)) ∧ Below w.heap.size w w' := by
  obtain ⟨a, cap, rfl, h⟩ := hv
  rw [iotaB_length]
  by_cases hz : m = 0
  · subst hz
    exact (heldB_zero a cap k0 w).mono fun e w' ⟨he, hw⟩ => ⟨by rw [he]; simp, by subst hw; exact Below.refl _ _⟩
  · obtain ⟨b, rfl, hc⟩ := h (fun e => hz (by rw [← iotaB_length k0 m, e]; rfl))
    exact heldB_row b m cap k0 w hc h0 h1 hn

theorem flatB_cells {w : World} {b : Nat} {ps : List (Int × Int × Int)} (h : CellsB w b ps) : ∀ j u, (flatB ps)[j]? = some u → w.cell? ((⟨b, 0, none⟩ : Addr).add j) = some u := by
  intro j u hj
  have hjl : j < ps.length * 3 := by
    have := (List.getElem?_eq_some_iff.1 hj).1
    rwa [flatB_length] at this
  rw [addr_add, Nat.zero_add]
  have h2 : j = (j / 3) * 3 ∨ j = (j / 3) * 3 + 1 ∨ j = (j / 3) * 3 + 2 := by omega
  obtain ⟨g0, g1, g2⟩ := h (j / 3) (by omega)
  rcases h2 with h2 | h2 | h2
  · rw [h2, flatB_0 _ _ (by omega)] at hj
    rw [h2, g0]; exact hj
  · rw [h2, flatB_1 _ _ (by omega)] at hj
    rw [h2, g1]; exact hj
  · rw [h2, flatB_2 _ _ (by omega)] at hj
    rw [h2, g2]; exact hj
theorem flatB_ones (ps : List (Int × Int × Int)) : ∀ u ∈ flatB ps, u.oneCell' = true := by
  intro u hu
  simp only [flatB, flatE, List.mem_flatMap, encB, List.mem_cons, List.not_mem_nil, or_false] at hu
  obtain ⟨a, _, rfl | rfl | rfl⟩ := hu <;> rfl
end Go.Proofs.YtbclmafplaipaaaDoor
