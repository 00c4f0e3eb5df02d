/-
  Contracts of markParcelS and heldParcelS.
-/
import Derived.Test.YtbclmafplaipaaaDoorRParcel
import Derived.Test.YtbclmafplaipaaaDoorGrownT
namespace Go.Proofs.YtbclmafplaipaaaDoor
open Go Go.RowKit
set_option linter.unusedVariables false

/-- The marks k, k + 1, .. of m elements, as their fields hold them. -/
def mkQ (k : Int) (i : Nat) : Int × Int := (IntKind.i8.wrap (k + 2 * (i : Int)), IntKind.i16.wrap (k + 2 * (i : Int) + 1))
def iotaQ (k : Int) (m : Nat) : List (Int × Int) := (List.range m).map (mkQ k)
theorem iotaQ_length (k : Int) (m : Nat) : (iotaQ k m).length = m := by simp [iotaQ]
theorem iotaQ_get (k : Int) (m i : Nat) (h : i < m) : (iotaQ k m).getD i (0, 0) = mkQ k i := by simp [iotaQ, List.getD, h]
def markedQ (k : Int) (ps : List (Int × Int)) (j : Nat) : List (Int × Int) := iotaQ k j ++ ps.drop j
theorem markedQ_length (k : Int) (ps : List (Int × Int)) (j : Nat) (h : j ≤ ps.length) : (markedQ k ps j).length = ps.length := by simp [markedQ, iotaQ_length]; omega
theorem markedQ_zero (k : Int) (ps : List (Int × Int)) : markedQ k ps 0 = ps := by simp [markedQ, iotaQ]
theorem markedQ_all (k : Int) (ps : List (Int × Int)) : markedQ k ps ps.length = iotaQ k ps.length := by simp [markedQ]
theorem markedQ_set (k : Int) (ps : List (Int × Int)) (j : Nat) (h : j < ps.length) : (markedQ k ps j).set j (mkQ k j) = markedQ k ps (j + 1) := by
  unfold markedQ
  rw [List.set_append_right _ _ (by simp [iotaQ_length]), iotaQ_length, Nat.sub_self, List.drop_eq_getElem_cons h, List.set_cons_zero]
  simp [iotaQ, List.range_succ]

set_option maxHeartbeats 2000000 in
set_option maxRecDepth 100000 in
theorem markQ_row (T : TypeId) (B g cap : Nat) (ps : List (Int × Int)) (k0 : Int) (w : World) (hown : OwnQ T B w (.slice (some ⟨g, 0, none⟩) ps.length cap) ps) (h0 : 0 ≤ k0) (h1 : k0 ≤ 16777216) (hx : ps.length ≤ 1048576) :
    Calls Tryd.prog 29 #[.slice (some ⟨g, 0, none⟩) ps.length cap, .int .i64 k0] w fun e w' => e = .returned (.int .i64 (k0 + 2 * ps.length)) ∧ OwnQ T B w' (.slice (some ⟨g, 0, none⟩) ps.length cap) (iotaQ k0 ps.length) ∧ w.grownBy w' (some g) := by
  go_enter Tryd.func29, Tryd.ntmps29
  go_wp2
  go_loopw [1, 5] (fun q i wr => ∃ j : Nat, j ≤ ps.length ∧ i = .int .i64 j ∧ q = .int .i64 (k0 + 2 * j) ∧ wr.ownsRow B T 2 (.slice (some ⟨g, 0, none⟩) ps.length cap) ps.length (flatQ (markedQ k0 ps j)) ∧ w.grownBy wr (some g)) (fun _ i _ => ps.length - (intOf i).toNat)
  case atStart => exact ⟨0, Nat.zero_le _, rfl, by simp, by rw [markedQ_zero]; exact hown, World.grownBy.refl _ _⟩
  case round =>
    obtain ⟨j, hj, rfl, rfl, hor, hgr⟩ := hrel
    have HG := Lib.hid hgr
    by_cases hlt : j < ps.length
    · have hml : (markedQ k0 ps j).length = ps.length := markedQ_length k0 ps j hj
      have c0 := hor.cellAt (j * 2) (by omega)
      have c1 := hor.cellAt (j * 2 + 1) (by omega)
      rw [flatQ_0 _ _ (by rw [hml]; exact hlt)] at c0
      rw [flatQ_1 _ _ (by rw [hml]; exact hlt)] at c1
      have f0 := hor.frozenAt (j * 2)
      have f1 := hor.frozenAt (j * 2 + 1)
      obtain ⟨y, hy⟩ : ∃ y, (markedQ k0 ps j).getD j (0, 0) = y := ⟨_, rfl⟩
      rw [hy] at c0 c1
      obtain ⟨x0, x1⟩ := y
      have S1 := hor.stored (j * 2) (.int .i8 (IntKind.i8.wrap (k0 + 2 * (j : Int))))
      have S2 := S1.1.stored (j * 2 + 1) (.int .i16 (IntKind.i16.wrap (k0 + 2 * (j : Int) + 1)))
      have SS := S2.1
      rw [flatQ_set _ _ _ _ (by rw [hml]; exact hlt)] at SS
      rw [show (IntKind.i8.wrap (k0 + 2 * (j : Int)), IntKind.i16.wrap (k0 + 2 * (j : Int) + 1)) = mkQ k0 j from rfl, markedQ_set k0 ps j hlt] at SS
      have HS := Lib.hid SS
      have HGG := Lib.hid (grown_trans' S1.2 (S2.2))
      clear S1 S2 SS hor hown hgr hy hml
      go_wp2
      go_roundw
      case rel => exact ⟨j + 1, by omega, by go_num, by go_num, HS.out, grown_trans' HG.out HGG.out⟩
      case measure => simp [intOf]; omega
    · have hj' : j = ps.length := by omega
      have HO : Hid (wr.ownsRow B T 2 (.slice (some ⟨g, 0, none⟩) ps.length cap) ps.length (flatQ (iotaQ k0 ps.length))) := Lib.hid (by rw [hj', markedQ_all] at hor; exact hor)
      have HJ := Lib.hid hj'
      clear hor hown hgr hj'
      go_wp2
      go_ret
      refine ⟨by rw [HJ.out]; rfl, ?_, HG.out⟩
      have h := HO.out
      unfold OwnQ
      rw [iotaQ_length]
      exact h

set_option maxHeartbeats 1000000 in
theorem markQ_nil (k0 : Int) (w : World) :
    Calls Tryd.prog 29 #[.slice none 0 0, .int .i64 k0] w fun e w' => e = .returned (.int .i64 k0) ∧ w = w' := by
  go_enter Tryd.func29, Tryd.ntmps29
  go_wp2
  refine wp_loop_rounds 1 ?_
  rw [rounds_succ]
  go_wp2
  go_ret
  exact ⟨rfl, rfl⟩

theorem markQ_any (T : TypeId) (B : Nat) (v : Value) (ps : List (Int × Int)) (k0 : Int) (w : World) (hown : OwnQ T B w v ps) (h0 : 0 ≤ k0) (h1 : k0 ≤ 16777216) (hx : ps.length ≤ 1048576) :
    Calls Tryd.prog 29 #[v, .int .i64 k0] w fun e w' => e = .returned (.int .i64 (k0 + 2 * ps.length)) ∧ OwnQ T B w' v (iotaQ k0 ps.length) ∧ w.grownBy w' v.ownBlock := by
  rcases hown.cases with ⟨rfl, rfl⟩ | ⟨g, cap, rfl, _⟩
  · exact (markQ_nil k0 w).mono fun e w' ⟨he, hw⟩ => ⟨by rw [he]; simp, by subst hw; simpa [iotaQ] using hown, by subst hw; exact World.grownBy.refl _ _⟩
  · exact markQ_row T B g cap ps k0 w hown h0 h1 hx

set_option maxHeartbeats 2000000 in
set_option maxRecDepth 100000 in
theorem heldQ_row (g m cap : Nat) (k0 : Int) (w : World) (hc : CellsQ w g (iotaQ k0 m)) (h0 : 0 ≤ k0) (h1 : k0 ≤ 16777216) (hn : m ≤ 1048576) :
    Calls Tryd.prog 30 #[.slice (some ⟨g, 0, none⟩) m cap, .int .i64 k0] w fun e w' => e = .returned (.int .i64 (k0 + 2 * m)) ∧ Below w.heap.size w w' := by
  go_enter Tryd.func30, Tryd.ntmps30
  go_wp2
  go_loopw [1, 5] (fun q i wr => ∃ j : Nat, j ≤ m ∧ i = .int .i64 j ∧ q = .int .i64 (k0 + 2 * j) ∧ Below w.heap.size w wr) (fun _ i _ => m - (intOf i).toNat)
  case atStart => exact ⟨0, Nat.zero_le _, rfl, by simp, Below.refl _ _⟩
  case round =>
    obtain ⟨j, hj, rfl, rfl, hnx⟩ := hrel
    have HG := Lib.hid hnx
    by_cases hlt : j < m
    · obtain ⟨c0, c1⟩ := hc.below hnx j (by rw [iotaQ_length]; exact hlt)
      rw [iotaQ_get _ _ _ hlt] at c0 c1
      unfold mkQ at c0 c1
      simp only at c0 c1
      clear hnx hc
      go_wp2
      go_roundw
      case rel => exact ⟨j + 1, by omega, by go_num, by go_num, HG.out⟩
      case measure => simp [intOf]; omega
    · have hj' : j = m := by omega
      have HJ := Lib.hid hj'
      clear hnx hj' hc
      go_wp2
      go_ret
      exact ⟨by rw [HJ.out]; rfl, HG.out⟩

set_option maxHeartbeats 1000000 in
theorem heldQ_zero (a : Option Addr) (cap : Nat) (k0 : Int) (w : World) :
    Calls Tryd.prog 30 #[.slice a 0 cap, .int .i64 k0] w fun e w' => e = .returned (.int .i64 k0) ∧ w = w' := by
  go_enter Tryd.func30, Tryd.ntmps30
  go_wp2
  refine wp_loop_rounds 1 ?_
  rw [rounds_succ]
  go_wp2
  go_ret
  exact ⟨rfl, rfl⟩

theorem heldQ_any (v : Value) (m : Nat) (k0 : Int) (w : World) (hv : ReadsQ w v (iotaQ k0 m)) (h0 : 0 ≤ k0) (h1 : k0 ≤ 16777216) (hn : m ≤ 1048576) :
    Calls Tryd.prog 30 #[v, .int .i64 k0] w fun e w' => e = .returned (.int .i64 (k0 + 2 * m)) ∧ Below w.heap.size w w' := by
  obtain ⟨a, cap, rfl, h⟩ := hv
  rw [iotaQ_length]
  by_cases hz : m = 0
  · subst hz
    exact (heldQ_zero a cap k0 w).mono fun e w' ⟨he, hw⟩ => ⟨by rw [he]; simp, by subst hw; exact Below.refl _ _⟩
  · obtain ⟨b, rfl, hc⟩ := h (fun e => hz (by rw [← iotaQ_length k0 m, e]; rfl))
    exact heldQ_row b m cap k0 w hc h0 h1 hn

theorem flatQ_cells {w : World} {b : Nat} {ps : List (Int × Int)} (h : CellsQ w b ps) : ∀ j u, (flatQ ps)[j]? = some u → w.cell? ((⟨b, 0, none⟩ : Addr).add j) = some u := by
  intro j u hj
  have hjl : j < ps.length * 2 := by
    have := (List.getElem?_eq_some_iff.1 hj).1
    rwa [flatQ_length] at this
  rw [addr_add, Nat.zero_add]
  have h2 : j = (j / 2) * 2 ∨ j = (j / 2) * 2 + 1 := by omega
  obtain ⟨g0, g1⟩ := h (j / 2) (by omega)
  rcases h2 with h2 | h2
  · rw [h2, flatQ_0 _ _ (by omega)] at hj
    rw [h2, g0]; exact hj
  · rw [h2, flatQ_1 _ _ (by omega)] at hj
    rw [h2, g1]; exact hj
theorem flatQ_ones (ps : List (Int × Int)) : ∀ u ∈ flatQ ps, u.oneCell' = true := by
  intro u hu
  simp only [flatQ, flatE, List.mem_flatMap, encQ, List.mem_cons, List.not_mem_nil, or_false] at hu
  obtain ⟨a, _, rfl | rfl⟩ := hu <;> rfl
end Go.Proofs.YtbclmafplaipaaaDoor
