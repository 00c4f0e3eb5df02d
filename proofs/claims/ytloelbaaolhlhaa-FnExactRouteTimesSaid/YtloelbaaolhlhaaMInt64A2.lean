/-
  Contracts of markInt64A2S and heldInt64A2S.
-/
import Derived.Test.YtloelbaaolhlhaaRInt64A2
import Derived.Test.YtloelbaaolhlhaaGrownT
namespace Go.Proofs.Ytloelbaaolhlhaa
open Go Go.RowKit
set_option linter.unusedVariables false

/-- The marks k, k + 1, .. of m elements, as their fields hold them. -/
def mkA (k : Int) (i : Nat) : Int × Int := (k + 2 * (i : Int), k + 2 * (i : Int) + 1)
def iotaA (k : Int) (m : Nat) : List (Int × Int) := (List.range m).map (mkA k)
theorem iotaA_length (k : Int) (m : Nat) : (iotaA k m).length = m := by simp [iotaA]
theorem iotaA_get (k : Int) (m i : Nat) (h : i < m) : (iotaA k m).getD i (0, 0) = mkA k i := by simp [iotaA, List.getD, h]
def markedA (k : Int) (ps : List (Int × Int)) (j : Nat) : List (Int × Int) := iotaA k j ++ ps.drop j
theorem markedA_length (k : Int) (ps : List (Int × Int)) (j : Nat) (h : j ≤ ps.length) : (markedA k ps j).length = ps.length := by simp [markedA, iotaA_length]; omega
theorem markedA_zero (k : Int) (ps : List (Int × Int)) : markedA k ps 0 = ps := by simp [markedA, iotaA]
theorem markedA_all (k : Int) (ps : List (Int × Int)) : markedA k ps ps.length = iotaA k ps.length := by simp [markedA]
theorem markedA_set (k : Int) (ps : List (Int × Int)) (j : Nat) (h : j < ps.length) : (markedA k ps j).set j (mkA k j) = markedA k ps (j + 1) := by
  unfold markedA
  rw [List.set_append_right _ _ (by simp [iotaA_length]), iotaA_length, Nat.sub_self, List.drop_eq_getElem_cons h, List.set_cons_zero]
  simp [iotaA, List.range_succ]

set_option maxHeartbeats 2000000 in
set_option maxRecDepth 100000 in
theorem markA_row (T : TypeId) (B g cap : Nat) (ps : List (Int × Int)) (k0 : Int) (w : World) (hown : OwnA T B w (.slice (some ⟨g, 0, none⟩) ps.length cap) ps) (h0 : 0 ≤ k0) (h1 : k0 ≤ 16777216) (hx : ps.length ≤ 1048576) :
    Calls Try.prog 28 #[.slice (some ⟨g, 0, none⟩) ps.length cap, .int .i64 k0] w fun e w' => e = .returned (.int .i64 (k0 + 2 * ps.length)) ∧ OwnA T B w' (.slice (some ⟨g, 0, none⟩) ps.length cap) (iotaA k0 ps.length) ∧ w.grownBy w' (some g) := by
  go_enter Try.func28, Try.ntmps28
  go_wp2
  go_loopw [1, 5] (fun q i wr => ∃ j : Nat, j ≤ ps.length ∧ i = .int .i64 j ∧ q = .int .i64 (k0 + 2 * j) ∧ wr.ownsRow B T 2 (.slice (some ⟨g, 0, none⟩) ps.length cap) ps.length (flatA (markedA k0 ps j)) ∧ w.grownBy wr (some g)) (fun _ i _ => ps.length - (intOf i).toNat)
  case atStart => exact ⟨0, Nat.zero_le _, rfl, by simp, by rw [markedA_zero]; exact hown, World.grownBy.refl _ _⟩
  case round =>
    obtain ⟨j, hj, rfl, rfl, hor, hgr⟩ := hrel
    obtain ⟨wo, rfl⟩ : ∃ W, W = wr := ⟨_, rfl⟩
    have HG := Lib.hid hgr
    have HOR := Lib.hid hor
    by_cases hlt : j < ps.length
    · have hml : (markedA k0 ps j).length = ps.length := markedA_length k0 ps j hj
      have HML := Lib.hid hml
      have hjl : (j : Int) < (ps.length : Int) := by omega
      clear hor hgr hown hml
      go_wp2
      go_loopw [1, 6] (fun q i wr => ∃ d : Nat, d ≤ 2 ∧ i = .int .i64 d ∧ q = .int .i64 (k0 + 2 * j + d) ∧ ((d = 0 ∧ wr.ownsRow B T 2 (.slice (some ⟨g, 0, none⟩) ps.length cap) ps.length (flatA (markedA k0 ps j))) ∨ (d = 1 ∧ wr.ownsRow B T 2 (.slice (some ⟨g, 0, none⟩) ps.length cap) ps.length ((flatA (markedA k0 ps j)).set (j * 2) (.int .i64 (k0 + 2 * (j : Int))))) ∨ (d = 2 ∧ wr.ownsRow B T 2 (.slice (some ⟨g, 0, none⟩) ps.length cap) ps.length (flatA (markedA k0 ps (j + 1))))) ∧ w.grownBy wr (some g)) (fun _ i _ => 2 - (intOf i).toNat)
      case atStart => exact ⟨0, by omega, rfl, by simp, .inl ⟨rfl, HOR.out⟩, HG.out⟩
      case round =>
        obtain ⟨d, hd, rfl, rfl, hor, hgr⟩ := hrel
        have HG2 := Lib.hid hgr
        rcases hor with ⟨rfl, hor⟩ | ⟨rfl, hor⟩ | ⟨rfl, hor⟩
        · have c0 := hor.cellAt (j * 2) (by omega)
          rw [flatA_0 _ _ (by rw [HML.out]; exact hlt)] at c0
          have f0 := hor.frozenAt (j * 2)
          obtain ⟨y, hy⟩ : ∃ y, (markedA k0 ps j).getD j (0, 0) = y := ⟨_, rfl⟩
          rw [hy] at c0
          obtain ⟨x0, x1⟩ := y
          have S1 := hor.stored (j * 2) (.int .i64 (k0 + 2 * (j : Int)))
          have HS := Lib.hid S1.1
          have HGG := Lib.hid S1.2
          clear S1 hor hgr hy
          go_wp2
          go_roundw
          case rel => exact ⟨1, by omega, by go_num, by go_num, .inr (.inl ⟨rfl, HS.out⟩), grown_trans' HG2.out HGG.out⟩
          case measure => simp [intOf]
        · have c1 := hor.cellAt (j * 2 + 1) (by omega)
          rw [List.getElem?_set_ne (by omega), flatA_1 _ _ (by rw [HML.out]; exact hlt)] at c1
          have f1 := hor.frozenAt (j * 2 + 1)
          obtain ⟨y, hy⟩ : ∃ y, (markedA k0 ps j).getD j (0, 0) = y := ⟨_, rfl⟩
          rw [hy] at c1
          obtain ⟨x0, x1⟩ := y
          have S1 := hor.stored (j * 2 + 1) (.int .i64 (k0 + 2 * (j : Int) + 1))
          have SS := S1.1
          rw [flatA_set _ _ _ _ (by rw [HML.out]; exact hlt)] at SS
          rw [show (k0 + 2 * (j : Int), k0 + 2 * (j : Int) + 1) = mkA k0 j from rfl, markedA_set k0 ps j hlt] at SS
          have HS := Lib.hid SS
          have HGG := Lib.hid S1.2
          clear S1 SS hor hgr hy
          go_wp2
          go_roundw
          case rel => exact ⟨2, by omega, by go_num, by go_num, .inr (.inr ⟨rfl, HS.out⟩), grown_trans' HG2.out HGG.out⟩
          case measure => simp [intOf]
        · have HS := Lib.hid hor
          clear hor hgr
          go_wp2
          go_roundw
          case rel => exact ⟨j + 1, by omega, by go_num, by go_num, HS.out, HG2.out⟩
          case measure => simp [intOf]; omega
    · have hj' : j = ps.length := by omega
      have HO : Hid (wo.ownsRow B T 2 (.slice (some ⟨g, 0, none⟩) ps.length cap) ps.length (flatA (iotaA k0 ps.length))) := Lib.hid (by rw [hj', markedA_all] at hor; exact hor)
      have HJ := Lib.hid hj'
      clear hor hown hgr hj'
      go_wp2
      go_ret
      refine ⟨by rw [HJ.out]; rfl, ?_, HG.out⟩
      have h := HO.out
      unfold OwnA
      rw [iotaA_length]
      exact h

set_option maxHeartbeats 1000000 in
theorem markA_nil (k0 : Int) (w : World) :
    Calls Try.prog 28 #[.slice none 0 0, .int .i64 k0] w fun e w' => e = .returned (.int .i64 k0) ∧ w = w' := by
  go_enter Try.func28, Try.ntmps28
  go_wp2
  refine wp_loop_rounds 1 ?_
  rw [rounds_succ]
  go_wp2
  go_ret
  exact ⟨rfl, rfl⟩

theorem markA_any (T : TypeId) (B : Nat) (v : Value) (ps : List (Int × Int)) (k0 : Int) (w : World) (hown : OwnA T B w v ps) (h0 : 0 ≤ k0) (h1 : k0 ≤ 16777216) (hx : ps.length ≤ 1048576) :
    Calls Try.prog 28 #[v, .int .i64 k0] w fun e w' => e = .returned (.int .i64 (k0 + 2 * ps.length)) ∧ OwnA T B w' v (iotaA k0 ps.length) ∧ w.grownBy w' v.ownBlock := by
  rcases hown.cases with ⟨rfl, rfl⟩ | ⟨g, cap, rfl, _⟩
  · exact (markA_nil k0 w).mono fun e w' ⟨he, hw⟩ => ⟨by rw [he]; simp, by subst hw; simpa [iotaA] using hown, by subst hw; exact World.grownBy.refl _ _⟩
  · exact markA_row T B g cap ps k0 w hown h0 h1 hx

set_option maxHeartbeats 2000000 in
set_option maxRecDepth 100000 in
theorem heldA_row (g m cap : Nat) (k0 : Int) (w : World) (hc : CellsA w g (iotaA k0 m)) (h0 : 0 ≤ k0) (h1 : k0 ≤ 16777216) (hn : m ≤ 1048576) :
    Calls Try.prog 29 #[.slice (some ⟨g, 0, none⟩) m cap, .int .i64 k0] w fun e w' => e = .returned (.int .i64 (k0 + 2 * m)) ∧ Below w.heap.size w w' := by
  go_enter Try.func29, Try.ntmps29
  go_wp2
  go_loopw [1, 5] (fun q i wr => ∃ j : Nat, j ≤ m ∧ i = .int .i64 j ∧ q = .int .i64 (k0 + 2 * j) ∧ Below w.heap.size w wr) (fun _ i _ => m - (intOf i).toNat)
  case atStart => exact ⟨0, Nat.zero_le _, rfl, by simp, Below.refl _ _⟩
  case round =>
    obtain ⟨j, hj, rfl, rfl, hnx⟩ := hrel
    have HG := Lib.hid hnx
    by_cases hlt : j < m
    · obtain ⟨wo, rfl⟩ : ∃ W, W = wr := ⟨_, rfl⟩
      obtain ⟨c0, c1⟩ := hc.below hnx j (by rw [iotaA_length]; exact hlt)
      rw [iotaA_get _ _ _ hlt] at c0 c1
      unfold mkA at c0 c1
      simp only at c0 c1
      clear hnx hc
      go_wp2
      go_loopw [1, 6] (fun q i wr => ∃ d : Nat, d ≤ 2 ∧ i = .int .i64 d ∧ q = .int .i64 (k0 + 2 * j + d) ∧ wr = wo) (fun _ i _ => 2 - (intOf i).toNat)
      case atStart => exact ⟨0, by omega, rfl, by simp, rfl⟩
      case round =>
        obtain ⟨d, hd, rfl, rfl, hwr⟩ := hrel
        have hwr2 := hwr.symm
        clear hwr
        subst hwr2
        match d, hd with
        | 0, _ =>
          go_wp2
          go_roundw
          case rel => exact ⟨1, by omega, by go_num, by go_num, (by first | rfl | trivial)⟩
          case measure => simp [intOf]
        | 1, _ =>
          go_wp2
          go_roundw
          case rel => exact ⟨2, by omega, by go_num, by go_num, (by first | rfl | trivial)⟩
          case measure => simp [intOf]
        | 2, _ =>
          go_wp2
          go_roundw
          case rel => exact ⟨j + 1, by omega, by go_num, by go_num, HG.out⟩
          case measure => simp [intOf]; omega
    · have hj' : j = m := by omega
      have HJ := Lib.hid hj'
      clear hnx hj' hc
      go_wp2
      go_ret
      exact ⟨by rw [HJ.out]; rfl, HG.out⟩

set_option maxHeartbeats 1000000 in
theorem heldA_zero (a : Option Addr) (cap : Nat) (k0 : Int) (w : World) :
    Calls Try.prog 29 #[.slice a 0 cap, .int .i64 k0] w fun e w' => e = .returned (.int .i64 k0) ∧ w = w' := by
  go_enter Try.func29, Try.ntmps29
  go_wp2
  refine wp_loop_rounds 1 ?_
  rw [rounds_succ]
  go_wp2
  go_ret
  exact ⟨rfl, rfl⟩

theorem heldA_any (v : Value) (m : Nat) (k0 : Int) (w : World) (hv : ReadsA w v (iotaA k0 m)) (h0 : 0 ≤ k0) (h1 : k0 ≤ 16777216) (hn : m ≤ 1048576) :
    Calls Try.prog 29 #[v, .int .i64 k0] w fun e w' => e = .returned (.int .i64 (k0 + 2 * m)) ∧ Below w.heap.size w w' := by
  obtain ⟨a, cap, rfl, h⟩ := hv
  rw [iotaA_length]
  by_cases hz : m = 0
  · subst hz
    exact (heldA_zero a cap k0 w).mono fun e w' ⟨he, hw⟩ => ⟨by rw [he]; simp, by subst hw; exact Below.refl _ _⟩
  · obtain ⟨b, rfl, hc⟩ := h (fun e => hz (by rw [← iotaA_length k0 m, e]; rfl))
    exact heldA_row b m cap k0 w hc h0 h1 hn

theorem flatA_cells {w : World} {b : Nat} {ps : List (Int × Int)} (h : CellsA w b ps) : ∀ j u, (flatA ps)[j]? = some u → w.cell? ((⟨b, 0, none⟩ : Addr).add j) = some u := by
  intro j u hj
  have hjl : j < ps.length * 2 := by
    have := (List.getElem?_eq_some_iff.1 hj).1
    rwa [flatA_length] at this
  rw [addr_add, Nat.zero_add]
  have h2 : j = (j / 2) * 2 ∨ j = (j / 2) * 2 + 1 := by omega
  obtain ⟨g0, g1⟩ := h (j / 2) (by omega)
  rcases h2 with h2 | h2
  · rw [h2, flatA_0 _ _ (by omega)] at hj
    rw [h2, g0]; exact hj
  · rw [h2, flatA_1 _ _ (by omega)] at hj
    rw [h2, g1]; exact hj
theorem flatA_ones (ps : List (Int × Int)) : ∀ u ∈ flatA ps, u.oneCell' = true := by
  intro u hu
  simp only [flatA, flatE, List.mem_flatMap, encA, List.mem_cons, List.not_mem_nil, or_false] at hu
  obtain ⟨a, _, rfl | rfl⟩ := hu <;> rfl
end Go.Proofs.Ytloelbaaolhlhaa
