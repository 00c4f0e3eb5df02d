/-
  Contracts of markScanS and heldScanS.
-/
import Derived.Test.YtamnojhkfknnoaaRScan
import Derived.Test.YtamnojhkfknnoaaGrownT
namespace Go.Proofs.Ytamnojhkfknnoaa
open Go Go.RowKit
set_option linter.unusedVariables false

/-- The marks k, k + 1, .. of m elements, as their fields hold them. -/
def mkSc (k : Int) (i : Nat) : Int × Int := (IntKind.i8.wrap (k + 2 * (i : Int)), IntKind.i16.wrap (k + 2 * (i : Int) + 1))
def iotaSc (k : Int) (m : Nat) : List (Int × Int) := (List.range m).map (mkSc k)
theorem iotaSc_length (k : Int) (m : Nat) : (iotaSc k m).length = m := by simp [iotaSc]
theorem iotaSc_get (k : Int) (m i : Nat) (h : i < m) : (iotaSc k m).getD i (0, 0) = mkSc k i := by simp [iotaSc, List.getD, h]
def markedSc (k : Int) (ps : List (Int × Int)) (j : Nat) : List (Int × Int) := iotaSc k j ++ ps.drop j
theorem markedSc_length (k : Int) (ps : List (Int × Int)) (j : Nat) (h : j ≤ ps.length) : (markedSc k ps j).length = ps.length := by simp [markedSc, iotaSc_length]; omega
theorem markedSc_zero (k : Int) (ps : List (Int × Int)) : markedSc k ps 0 = ps := by simp [markedSc, iotaSc]
theorem markedSc_all (k : Int) (ps : List (Int × Int)) : markedSc k ps ps.length = iotaSc k ps.length := by simp [markedSc]
theorem markedSc_set (k : Int) (ps : List (Int × Int)) (j : Nat) (h : j < ps.length) : (markedSc k ps j).set j (mkSc k j) = markedSc k ps (j + 1) := by
  unfold markedSc
  rw [List.set_append_right _ _ (by simp [iotaSc_length]), iotaSc_length, Nat.sub_self, List.drop_eq_getElem_cons h, List.set_cons_zero]
  simp [iotaSc, List.range_succ]

set_option maxHeartbeats 2000000 in
set_option maxRecDepth 100000 in
theorem markSc_row (T : TypeId) (B g cap : Nat) (ps : List (Int × Int)) (k0 : Int) (w : World) (hown : OwnSc T B w (.slice (some ⟨g, 0, none⟩) ps.length cap) ps) (h0 : 0 ≤ k0) (h1 : k0 ≤ 16777216) (hx : ps.length ≤ 1048576) :
    Calls Try.prog 15 #[.slice (some ⟨g, 0, none⟩) ps.length cap, .int .i64 k0] w fun e w' => e = .returned (.int .i64 (k0 + 2 * ps.length)) ∧ OwnSc T B w' (.slice (some ⟨g, 0, none⟩) ps.length cap) (iotaSc k0 ps.length) ∧ w.grownBy w' (some g) := by
  go_enter Try.func15, Try.ntmps15
  go_wp2
  go_loopw [1, 5] (fun q i wr => ∃ j : Nat, j ≤ ps.length ∧ i = .int .i64 j ∧ q = .int .i64 (k0 + 2 * j) ∧ wr.ownsRow B T 2 (.slice (some ⟨g, 0, none⟩) ps.length cap) ps.length (flatSc (markedSc k0 ps j)) ∧ w.grownBy wr (some g)) (fun _ i _ => ps.length - (intOf i).toNat)
  case atStart => exact ⟨0, Nat.zero_le _, rfl, by simp, by rw [markedSc_zero]; exact hown, World.grownBy.refl _ _⟩
  case round =>
    obtain ⟨j, hj, rfl, rfl, hor, hgr⟩ := hrel
    have HG := Lib.hid hgr
    by_cases hlt : j < ps.length
    · have hml : (markedSc k0 ps j).length = ps.length := markedSc_length k0 ps j hj
      have c0 := hor.cellAt (j * 2) (by omega)
      have c1 := hor.cellAt (j * 2 + 1) (by omega)
      rw [flatSc_0 _ _ (by rw [hml]; exact hlt)] at c0
      rw [flatSc_1 _ _ (by rw [hml]; exact hlt)] at c1
      have f0 := hor.frozenAt (j * 2)
      have f1 := hor.frozenAt (j * 2 + 1)
      obtain ⟨y, hy⟩ : ∃ y, (markedSc k0 ps j).getD j (0, 0) = y := ⟨_, rfl⟩
      rw [hy] at c0 c1
      obtain ⟨x0, x1⟩ := y
      have S1 := hor.stored (j * 2) (.int .i8 (IntKind.i8.wrap (k0 + 2 * (j : Int))))
      have S2 := S1.1.stored (j * 2 + 1) (.int .i16 (IntKind.i16.wrap (k0 + 2 * (j : Int) + 1)))
      have SS := S2.1
      rw [flatSc_set _ _ _ _ (by rw [hml]; exact hlt)] at SS
      rw [show (IntKind.i8.wrap (k0 + 2 * (j : Int)), IntKind.i16.wrap (k0 + 2 * (j : Int) + 1)) = mkSc k0 j from rfl, markedSc_set k0 ps j hlt] at SS
      have HS := Lib.hid SS
      have HGG := Lib.hid (grown_trans' S1.2 (S2.2))
      clear S1 S2 SS hor hown hgr hy hml
      go_wp2
      go_roundw
      case rel => exact ⟨j + 1, by omega, by go_num, by go_num, HS.out, grown_trans' HG.out HGG.out⟩
      case measure => simp [intOf]; omega
    · have hj' : j = ps.length := by omega
      have HO : Hid (wr.ownsRow B T 2 (.slice (some ⟨g, 0, none⟩) ps.length cap) ps.length (flatSc (iotaSc k0 ps.length))) := Lib.hid (by rw [hj', markedSc_all] at hor; exact hor)
      have HJ := Lib.hid hj'
      clear hor hown hgr hj'
      go_wp2
      go_ret
      refine ⟨by rw [HJ.out]; rfl, ?_, HG.out⟩
      have h := HO.out
      unfold OwnSc
      rw [iotaSc_length]
      exact h

set_option maxHeartbeats 1000000 in
theorem markSc_nil (k0 : Int) (w : World) :
    Calls Try.prog 15 #[.slice none 0 0, .int .i64 k0] w fun e w' => e = .returned (.int .i64 k0) ∧ w = w' := by
  go_enter Try.func15, Try.ntmps15
  go_wp2
  refine wp_loop_rounds 1 ?_
  rw [rounds_succ]
  go_wp2
  go_ret
  exact ⟨rfl, rfl⟩

theorem markSc_any (T : TypeId) (B : Nat) (v : Value) (ps : List (Int × Int)) (k0 : Int) (w : World) (hown : OwnSc T B w v ps) (h0 : 0 ≤ k0) (h1 : k0 ≤ 16777216) (hx : ps.length ≤ 1048576) :
    Calls Try.prog 15 #[v, .int .i64 k0] w fun e w' => e = .returned (.int .i64 (k0 + 2 * ps.length)) ∧ OwnSc T B w' v (iotaSc k0 ps.length) ∧ w.grownBy w' v.ownBlock := by
  rcases hown.cases with ⟨rfl, rfl⟩ | ⟨g, cap, rfl, _⟩
  · exact (markSc_nil k0 w).mono fun e w' ⟨he, hw⟩ => ⟨by rw [he]; simp, by subst hw; simpa [iotaSc] using hown, by subst hw; exact World.grownBy.refl _ _⟩
  · exact markSc_row T B g cap ps k0 w hown h0 h1 hx

theorem flatSc_cells {w : World} {b : Nat} {ps : List (Int × Int)} (h : CellsSc w b ps) : ∀ j u, (flatSc ps)[j]? = some u → w.cell? ((⟨b, 0, none⟩ : Addr).add j) = some u := by
  intro j u hj
  have hjl : j < ps.length * 2 := by
    have := (List.getElem?_eq_some_iff.1 hj).1
    rwa [flatSc_length] at this
  rw [addr_add, Nat.zero_add]
  have h2 : j = (j / 2) * 2 ∨ j = (j / 2) * 2 + 1 := by omega
  obtain ⟨g0, g1⟩ := h (j / 2) (by omega)
  rcases h2 with h2 | h2
  · rw [h2, flatSc_0 _ _ (by omega)] at hj
    rw [h2, g0]; exact hj
  · rw [h2, flatSc_1 _ _ (by omega)] at hj
    rw [h2, g1]; exact hj
theorem flatSc_ones (ps : List (Int × Int)) : ∀ u ∈ flatSc ps, u.oneCell' = true := by
  intro u hu
  simp only [flatSc, flatE, List.mem_flatMap, encSc, List.mem_cons, List.not_mem_nil, or_false] at hu
  obtain ⟨a, _, rfl | rfl⟩ := hu <;> rfl
end Go.Proofs.Ytamnojhkfknnoaa
