/-
  Contracts of markLineS and heldLineS.
-/
import Derived.Test.YtocogipejchneaaRLine
import Derived.Test.YtocogipejchneaaGrownT
namespace Go.Proofs.Ytocogipejchneaa
open Go Go.RowKit
set_option linter.unusedVariables false

/-- The marks k, k + 1, .. of m elements, as their fields hold them. -/
def mkL (k : Int) (i : Nat) : Int × Int × Int × Int := (IntKind.i8.wrap (k + 4 * (i : Int)), IntKind.i16.wrap (k + 4 * (i : Int) + 1), (k + 4 * (i : Int) + 1 + 1), (k + 4 * (i : Int) + 1 + 1 + 1))
def iotaL (k : Int) (m : Nat) : List (Int × Int × Int × Int) := (List.range m).map (mkL k)
theorem iotaL_length (k : Int) (m : Nat) : (iotaL k m).length = m := by simp [iotaL]
theorem iotaL_get (k : Int) (m i : Nat) (h : i < m) : (iotaL k m).getD i (0, 0, 0, 0) = mkL k i := by simp [iotaL, List.getD, h]
def markedL (k : Int) (ps : List (Int × Int × Int × Int)) (j : Nat) : List (Int × Int × Int × Int) := iotaL k j ++ ps.drop j
theorem markedL_length (k : Int) (ps : List (Int × Int × Int × Int)) (j : Nat) (h : j ≤ ps.length) : (markedL k ps j).length = ps.length := by simp [markedL, iotaL_length]; omega
theorem markedL_zero (k : Int) (ps : List (Int × Int × Int × Int)) : markedL k ps 0 = ps := by simp [markedL, iotaL]
theorem markedL_all (k : Int) (ps : List (Int × Int × Int × Int)) : markedL k ps ps.length = iotaL k ps.length := by simp [markedL]
theorem markedL_set (k : Int) (ps : List (Int × Int × Int × Int)) (j : Nat) (h : j < ps.length) : (markedL k ps j).set j (mkL k j) = markedL k ps (j + 1) := by
  unfold markedL
  rw [List.set_append_right _ _ (by simp [iotaL_length]), iotaL_length, Nat.sub_self, List.drop_eq_getElem_cons h, List.set_cons_zero]
  simp [iotaL, List.range_succ]

set_option maxHeartbeats 2000000 in
set_option maxRecDepth 100000 in
theorem markL_row (T : TypeId) (B g cap : Nat) (ps : List (Int × Int × Int × Int)) (k0 : Int) (w : World) (hown : OwnL T B w (.slice (some ⟨g, 0, none⟩) ps.length cap) ps) (h0 : 0 ≤ k0) (h1 : k0 ≤ 16777216) (hx : ps.length ≤ 1048576) :
    Calls Try.prog 13 #[.slice (some ⟨g, 0, none⟩) ps.length cap, .int .i64 k0] w fun e w' => e = .returned (.int .i64 (k0 + 4 * ps.length)) ∧ OwnL T B w' (.slice (some ⟨g, 0, none⟩) ps.length cap) (iotaL k0 ps.length) ∧ w.grownBy w' (some g) := by
  go_enter Try.func13, Try.ntmps13
  go_wp2
  go_loopw [1, 5] (fun q i wr => ∃ j : Nat, j ≤ ps.length ∧ i = .int .i64 j ∧ q = .int .i64 (k0 + 4 * j) ∧ wr.ownsRow B T 4 (.slice (some ⟨g, 0, none⟩) ps.length cap) ps.length (flatL (markedL k0 ps j)) ∧ w.grownBy wr (some g)) (fun _ i _ => ps.length - (intOf i).toNat)
  case atStart => exact ⟨0, Nat.zero_le _, rfl, by simp, by rw [markedL_zero]; exact hown, World.grownBy.refl _ _⟩
  case round =>
    obtain ⟨j, hj, rfl, rfl, hor, hgr⟩ := hrel
    have HG := Lib.hid hgr
    by_cases hlt : j < ps.length
    · have hml : (markedL k0 ps j).length = ps.length := markedL_length k0 ps j hj
      have c0 := hor.cellAt (j * 4) (by omega)
      have c1 := hor.cellAt (j * 4 + 1) (by omega)
      have c2 := hor.cellAt (j * 4 + 2) (by omega)
      have c3 := hor.cellAt (j * 4 + 3) (by omega)
      rw [flatL_0 _ _ (by rw [hml]; exact hlt)] at c0
      rw [flatL_1 _ _ (by rw [hml]; exact hlt)] at c1
      rw [flatL_2 _ _ (by rw [hml]; exact hlt)] at c2
      rw [flatL_3 _ _ (by rw [hml]; exact hlt)] at c3
      have f0 := hor.frozenAt (j * 4)
      have f1 := hor.frozenAt (j * 4 + 1)
      have f2 := hor.frozenAt (j * 4 + 2)
      have f3 := hor.frozenAt (j * 4 + 3)
      obtain ⟨y, hy⟩ : ∃ y, (markedL k0 ps j).getD j (0, 0, 0, 0) = y := ⟨_, rfl⟩
      rw [hy] at c0 c1 c2 c3
      obtain ⟨x0, x1, x2, x3⟩ := y
      have S1 := hor.stored (j * 4) (.int .i8 (IntKind.i8.wrap (k0 + 4 * (j : Int))))
      have S2 := S1.1.stored (j * 4 + 1) (.int .i16 (IntKind.i16.wrap (k0 + 4 * (j : Int) + 1)))
      have S3 := S2.1.stored (j * 4 + 2) (.int .i32 ((k0 + 4 * (j : Int) + 1 + 1)))
      have S4 := S3.1.stored (j * 4 + 3) (.int .i32 ((k0 + 4 * (j : Int) + 1 + 1 + 1)))
      have SS := S4.1
      rw [flatL_set _ _ _ _ _ _ (by rw [hml]; exact hlt)] at SS
      rw [show (IntKind.i8.wrap (k0 + 4 * (j : Int)), IntKind.i16.wrap (k0 + 4 * (j : Int) + 1), (k0 + 4 * (j : Int) + 1 + 1), (k0 + 4 * (j : Int) + 1 + 1 + 1)) = mkL k0 j from rfl, markedL_set k0 ps j hlt] at SS
      have HS := Lib.hid SS
      have HGG := Lib.hid (grown_trans' S1.2 (grown_trans' S2.2 (grown_trans' S3.2 (S4.2))))
      clear S1 S2 S3 S4 SS hor hown hgr hy hml
      go_wp2
      go_roundw
      case rel => exact ⟨j + 1, by omega, by go_num, by go_num, HS.out, grown_trans' HG.out HGG.out⟩
      case measure => simp [intOf]; omega
    · have hj' : j = ps.length := by omega
      have HO : Hid (wr.ownsRow B T 4 (.slice (some ⟨g, 0, none⟩) ps.length cap) ps.length (flatL (iotaL k0 ps.length))) := Lib.hid (by rw [hj', markedL_all] at hor; exact hor)
      have HJ := Lib.hid hj'
      clear hor hown hgr hj'
      go_wp2
      go_ret
      refine ⟨by rw [HJ.out]; rfl, ?_, HG.out⟩
      have h := HO.out
      unfold OwnL
      rw [iotaL_length]
      exact h

set_option maxHeartbeats 1000000 in
theorem markL_nil (k0 : Int) (w : World) :
    Calls Try.prog 13 #[.slice none 0 0, .int .i64 k0] w fun e w' => e = .returned (.int .i64 k0) ∧ w = w' := by
  go_enter Try.func13, Try.ntmps13
  go_wp2
  refine wp_loop_rounds 1 ?_
  rw [rounds_succ]
  go_wp2
  go_ret
  exact ⟨rfl, rfl⟩

theorem markL_any (T : TypeId) (B : Nat) (v : Value) (ps : List (Int × Int × Int × Int)) (k0 : Int) (w : World) (hown : OwnL T B w v ps) (h0 : 0 ≤ k0) (h1 : k0 ≤ 16777216) (hx : ps.length ≤ 1048576) :
    Calls Try.prog 13 #[v, .int .i64 k0] w fun e w' => e = .returned (.int .i64 (k0 + 4 * ps.length)) ∧ OwnL T B w' v (iotaL k0 ps.length) ∧ w.grownBy w' v.ownBlock := by
  rcases hown.cases with ⟨rfl, rfl⟩ | ⟨g, cap, rfl, _⟩
  · exact (markL_nil k0 w).mono fun e w' ⟨he, hw⟩ => ⟨by rw [he]; simp, by subst hw; simpa [iotaL] using hown, by subst hw; exact World.grownBy.refl _ _⟩
  · exact markL_row T B g cap ps k0 w hown h0 h1 hx

set_option maxHeartbeats 2000000 in
set_option maxRecDepth 100000 in
theorem heldL_row (g m cap : Nat) (k0 : Int) (w : World) (hc : CellsL w g (iotaL k0 m)) (h0 : 0 ≤ k0) (h1 : k0 ≤ 16777216) (hn : m ≤ 1048576) :
    Calls Try.prog 14 #[.slice (some ⟨g, 0, none⟩) m cap, .int .i64 k0] w fun e w' => e = .returned (.int .i64 (k0 + 4 * m)) ∧ Below w.heap.size w w' := by
  go_enter Try.func14, Try.ntmps14
  go_wp2
  go_loopw [1, 5] (fun q i wr => ∃ j : Nat, j ≤ m ∧ i = .int .i64 j ∧ q = .int .i64 (k0 + 4 * j) ∧ Below w.heap.size w wr) (fun _ i _ => m - (intOf i).toNat)
  case atStart => exact ⟨0, Nat.zero_le _, rfl, by simp, Below.refl _ _⟩
  case round =>
    obtain ⟨j, hj, rfl, rfl, hnx⟩ := hrel
    have HG := Lib.hid hnx
    by_cases hlt : j < m
    · obtain ⟨c0, c1, c2, c3⟩ := hc.below hnx j (by rw [iotaL_length]; exact hlt)
      rw [iotaL_get _ _ _ hlt] at c0 c1 c2 c3
      unfold mkL at c0 c1 c2 c3
      simp only at c0 c1 c2 c3
      clear hnx hc
      go_wp2
      go_roundw
      case rel => exact ⟨j + 1, by omega, by go_num, by go_num, HG.out⟩
      case measure => simp [intOf]; omega
    · have hj' : j = m := by omega
      have HJ := Lib.hid hj'
      clear hnx hj' hc
      go_wp2
      go_ret
      exact ⟨by rw [HJ.out]; rfl, HG.out⟩

set_option maxHeartbeats 1000000 in
theorem heldL_zero (a : Option Addr) (cap : Nat) (k0 : Int) (w : World) :
    Calls Try.prog 14 #[.slice a 0 cap, .int .i64 k0] w fun e w' => e = .returned (.int .i64 k0) ∧ w = w' := by
  go_enter Try.func14, Try.ntmps14
  go_wp2
  refine wp_loop_rounds 1 ?_
  rw [rounds_succ]
  go_wp2
  go_ret
  exact ⟨rfl, rfl⟩

theorem heldL_any (v : Value) (m : Nat) (k0 : Int) (w : World) (hv : ReadsL w v (iotaL k0 m)) (h0 : 0 ≤ k0) (h1 : k0 ≤ 16777216) (hn : m ≤ 1048576) :
    Calls Try.prog 14 #[v, .int .i64 k0] w fun e w' => e = .returned (.int .i64 (k0 + 4 * m)) ∧ Below w.heap.size w w' := by
  obtain ⟨a, cap, rfl, h⟩ := hv
  rw [iotaL_length]
  by_cases hz : m = 0
  · subst hz
    exact (heldL_zero a cap k0 w).mono fun e w' ⟨he, hw⟩ => ⟨by rw [he]; simp, by subst hw; exact Below.refl _ _⟩
  · obtain ⟨b, rfl, hc⟩ := h (fun e => hz (by rw [← iotaL_length k0 m, e]; rfl))
    exact heldL_row b m cap k0 w hc h0 h1 hn

theorem flatL_cells {w : World} {b : Nat} {ps : List (Int × Int × Int × Int)} (h : CellsL w b ps) : ∀ j u, (flatL ps)[j]? = some u → w.cell? ((⟨b, 0, none⟩ : Addr).add j) = some u := by
  intro j u hj
  have hjl : j < ps.length * 4 := by
    have := (List.getElem?_eq_some_iff.1 hj).1
    rwa [flatL_length] at this
  rw [addr_add, Nat.zero_add]
  have h2 : j = (j / 4) * 4 ∨ j = (j / 4) * 4 + 1 ∨ j = (j / 4) * 4 + 2 ∨ j = (j / 4) * 4 + 3 := by omega
  obtain ⟨g0, g1, g2, g3⟩ := h (j / 4) (by omega)
  rcases h2 with h2 | h2 | h2 | h2
  · rw [h2, flatL_0 _ _ (by omega)] at hj
    rw [h2, g0]; exact hj
  · rw [h2, flatL_1 _ _ (by omega)] at hj
    rw [h2, g1]; exact hj
  · rw [h2, flatL_2 _ _ (by omega)] at hj
    rw [h2, g2]; exact hj
  · rw [h2, flatL_3 _ _ (by omega)] at hj
    rw [h2, g3]; exact hj
theorem flatL_ones (ps : List (Int × Int × Int × Int)) : ∀ u ∈ flatL ps, u.oneCell' = true := by
  intro u hu
  simp only [flatL, flatE, List.mem_flatMap, encL, List.mem_cons, List.not_mem_nil, or_false] at hu
  obtain ⟨a, _, rfl | rfl | rfl | rfl⟩ := hu <;> rfl
end Go.Proofs.Ytocogipejchneaa
