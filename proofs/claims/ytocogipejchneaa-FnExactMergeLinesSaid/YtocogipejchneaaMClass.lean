/-
  Contracts of markClassS and heldClassS.
-/
import Derived.Test.YtocogipejchneaaRClass
import Derived.Test.YtocogipejchneaaGrownT
namespace Go.Proofs.Ytocogipejchneaa
open Go Go.RowKit
set_option linter.unusedVariables false

/-- The marks k, k + 1, .. of m elements, as their fields hold them. -/
def mkC (k : Int) (i : Nat) : Int × Int × Int × Int := (IntKind.i16.wrap (k + 4 * (i : Int)), IntKind.i16.wrap (k + 4 * (i : Int) + 1), IntKind.i16.wrap (k + 4 * (i : Int) + 1 + 1), (k + 4 * (i : Int) + 1 + 1 + 1))
def iotaC (k : Int) (m : Nat) : List (Int × Int × Int × Int) := (List.range m).map (mkC k)
theorem iotaC_length (k : Int) (m : Nat) : (iotaC k m).length = m := by simp [iotaC]
theorem iotaC_get (k : Int) (m i : Nat) (h : i < m) : (iotaC k m).getD i (0, 0, 0, 0) = mkC k i := by simp [iotaC, List.getD, h]
def markedC (k : Int) (ps : List (Int × Int × Int × Int)) (j : Nat) : List (Int × Int × Int × Int) := iotaC k j ++ ps.drop j
theorem markedC_length (k : Int) (ps : List (Int × Int × Int × Int)) (j : Nat) (h : j ≤ ps.length) : (markedC k ps j).length = ps.length := by simp [markedC, iotaC_length]; omega
theorem markedC_zero (k : Int) (ps : List (Int × Int × Int × Int)) : markedC k ps 0 = ps := by simp [markedC, iotaC]
theorem markedC_all (k : Int) (ps : List (Int × Int × Int × Int)) : markedC k ps ps.length = iotaC k ps.length := by simp [markedC]
theorem markedC_set (k : Int) (ps : List (Int × Int × Int × Int)) (j : Nat) (h : j < ps.length) : (markedC k ps j).set j (mkC k j) = markedC k ps (j + 1) := by
  unfold markedC
  rw [List.set_append_right _ _ (by simp [iotaC_length]), iotaC_length, Nat.sub_self, List.drop_eq_getElem_cons h, List.set_cons_zero]
  simp [iotaC, List.range_succ]

set_option maxHeartbeats 2000000 in
set_option maxRecDepth 100000 in
theorem markC_row (T : TypeId) (B g cap : Nat) (ps : List (Int × Int × Int × Int)) (k0 : Int) (w : World) (hown : OwnC T B w (.slice (some ⟨g, 0, none⟩) ps.length cap) ps) (h0 : 0 ≤ k0) (h1 : k0 ≤ 16777216) (hx : ps.length ≤ 1048576) :
    Calls Try.prog 12 #[.slice (some ⟨g, 0, none⟩) ps.length cap, .int .i64 k0] w fun e w' => e = .returned (.int .i64 (k0 + 4 * ps.length)) ∧ OwnC T B w' (.slice (some ⟨g, 0, none⟩) ps.length cap) (iotaC k0 ps.length) ∧ w.grownBy w' (some g) := by
  go_enter Try.func12, Try.ntmps12
  go_wp2
  go_loopw [1, 5] (fun q i wr => ∃ j : Nat, j ≤ ps.length ∧ i = .int .i64 j ∧ q = .int .i64 (k0 + 4 * j) ∧ wr.ownsRow B T 4 (.slice (some ⟨g, 0, none⟩) ps.length cap) ps.length (flatC (markedC k0 ps j)) ∧ w.grownBy wr (some g)) (fun _ i _ => ps.length - (intOf i).toNat)
  case atStart => exact ⟨0, Nat.zero_le _, rfl, by simp, by rw [markedC_zero]; exact hown, World.grownBy.refl _ _⟩
  case round =>
    obtain ⟨j, hj, rfl, rfl, hor, hgr⟩ := hrel
    have HG := Lib.hid hgr
    by_cases hlt : j < ps.length
    · have hml : (markedC k0 ps j).length = ps.length := markedC_length k0 ps j hj
      have c0 := hor.cellAt (j * 4) (by omega)
      have c1 := hor.cellAt (j * 4 + 1) (by omega)
      have c2 := hor.cellAt (j * 4 + 2) (by omega)
      have c3 := hor.cellAt (j * 4 + 3) (by omega)
      rw [flatC_0 _ _ (by rw [hml]; exact hlt)] at c0
      rw [flatC_1 _ _ (by rw [hml]; exact hlt)] at c1
      rw [flatC_2 _ _ (by rw [hml]; exact hlt)] at c2
      rw [flatC_3 _ _ (by rw [hml]; exact hlt)] at c3
      have f0 := hor.frozenAt (j * 4)
      have f1 := hor.frozenAt (j * 4 + 1)
      have f2 := hor.frozenAt (j * 4 + 2)
      have f3 := hor.frozenAt (j * 4 + 3)
      obtain ⟨y, hy⟩ : ∃ y, (markedC k0 ps j).getD j (0, 0, 0, 0) = y := ⟨_, rfl⟩
      rw [hy] at c0 c1 c2 c3
      obtain ⟨x0, x1, x2, x3⟩ := y
      have S1 := hor.stored (j * 4) (.int .i16 (IntKind.i16.wrap (k0 + 4 * (j : Int))))
      have S2 := S1.1.stored (j * 4 + 1) (.int .i16 (IntKind.i16.wrap (k0 + 4 * (j : Int) + 1)))
      have S3 := S2.1.stored (j * 4 + 2) (.int .i16 (IntKind.i16.wrap (k0 + 4 * (j : Int) + 1 + 1)))
      have S4 := S3.1.stored (j * 4 + 3) (.int .i32 ((k0 + 4 * (j : Int) + 1 + 1 + 1)))
      have SS := S4.1
      rw [flatC_set _ _ _ _ _ _ (by rw [hml]; exact hlt)] at SS
      rw [show (IntKind.i16.wrap (k0 + 4 * (j : Int)), IntKind.i16.wrap (k0 + 4 * (j : Int) + 1), IntKind.i16.wrap (k0 + 4 * (j : Int) + 1 + 1), (k0 + 4 * (j : Int) + 1 + 1 + 1)) = mkC k0 j from rfl, markedC_set k0 ps j hlt] at SS
      have HS := Lib.hid SS
      have HGG := Lib.hid (grown_trans' S1.2 (grown_trans' S2.2 (grown_trans' S3.2 (S4.2))))
      clear S1 S2 S3 S4 SS hor hown hgr hy hml
      go_wp2
      go_roundw
      case rel => exact ⟨j + 1, by omega, by go_num, by go_num, HS.out, grown_trans' HG.out HGG.out⟩
      case measure => simp [intOf]; omega
    · have hj' : j = ps.length := by omega
      have HO : Hid (wr.ownsRow B T 4 (.slice (some ⟨g, 0, none⟩) ps.length cap) ps.length (flatC (iotaC k0 ps.length))) := Lib.hid (by rw [hj', markedC_all] at hor; exact hor)
      have HJ := Lib.hid hj'
      clear hor hown hgr hj'
      go_wp2
      go_ret
      refine ⟨by rw [HJ.out]; rfl, ?_, HG.out⟩
      have h := HO.out
      unfold OwnC
      rw [iotaC_length]
      exact h

set_option maxHeartbeats 1000000 in
theorem markC_nil (k0 : Int) (w : World) :
    Calls Try.prog 12 #[.slice none 0 0, .int .i64 k0] w fun e w' => e = .returned (.int .i64 k0) ∧ w = w' := by
  go_enter Try.func12, Try.ntmps12
  go_wp2
  refine wp_loop_rounds 1 ?_
  rw [rounds_succ]
  go_wp2
  go_ret
  exact ⟨rfl, rfl⟩

theorem markC_any (T : TypeId) (B : Nat) (v : Value) (ps : List (Int × Int × Int × Int)) (k0 : Int) (w : World) (hown : OwnC T B w v ps) (h0 : 0 ≤ k0) (h1 : k0 ≤ 16777216) (hx : ps.length ≤ 1048576) :
    Calls Try.prog 12 #[v, .int .i64 k0] w fun e w' => e = .returned (.int .i64 (k0 + 4 * ps.length)) ∧ OwnC T B w' v (iotaC k0 ps.length) ∧ w.grownBy w' v.ownBlock := by
  rcases hown.cases with ⟨rfl, rfl⟩ | ⟨g, cap, rfl, _⟩
  · exact (markC_nil k0 w).mono fun e w' ⟨he, hw⟩ => ⟨by rw [he]; simp, by subst hw; simpa [iotaC] using hown, by subst hw; exact World.grownBy.refl _ _⟩
  · exact markC_row T B g cap ps k0 w hown h0 h1 hx

theorem flatC_cells {w : World} {b : Nat} {ps : List (Int × Int × Int × Int)} (h : CellsC w b ps) : ∀ j u, (flatC ps)[j]? = some u → w.cell? ((⟨b, 0, none⟩ : Addr).add j) = some u := by
  intro j u hj
  have hjl : j < ps.length * 4 := by
    have := (List.getElem?_eq_some_iff.1 hj).1
    rwa [flatC_length] at this
  rw [addr_add, Nat.zero_add]
  have h2 : j = (j / 4) * 4 ∨ j = (j / 4) * 4 + 1 ∨ j = (j / 4) * 4 + 2 ∨ j = (j / 4) * 4 + 3 := by omega
  obtain ⟨g0, g1, g2, g3⟩ := h (j / 4) (by omega)
  rcases h2 with h2 | h2 | h2 | h2
  · rw [h2, flatC_0 _ _ (by omega)] at hj
    rw [h2, g0]; exact hj
  · rw [h2, flatC_1 _ _ (by omega)] at hj
    rw [h2, g1]; exact hj
  · rw [h2, flatC_2 _ _ (by omega)] at hj
    rw [h2, g2]; exact hj
  · rw [h2, flatC_3 _ _ (by omega)] at hj
    rw [h2, g3]; exact hj
theorem flatC_ones (ps : List (Int × Int × Int × Int)) : ∀ u ∈ flatC ps, u.oneCell' = true := by
  intro u hu
  simp only [flatC, flatE, List.mem_flatMap, encC, List.mem_cons, List.not_mem_nil, or_false] at hu
  obtain ⟨a, _, rfl | rfl | rfl | rfl⟩ := hu <;> rfl
end Go.Proofs.Ytocogipejchneaa
