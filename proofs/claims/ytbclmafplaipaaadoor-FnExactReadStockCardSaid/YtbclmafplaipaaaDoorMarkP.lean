/-
  Contracts of markStampS, heldStampS and of slices.Clone at stamps.
-/
import Derived.Test.YtbclmafplaipaaaDoorStock
import Derived.Lib.SliceRun
namespace Go.Proofs.YtbclmafplaipaaaDoor
open Go Go.RowKit
set_option linter.unusedVariables false

theorem grown_trans {a b c : World} {row : Option Nat} (h : a.grownBy b row) (k : b.grownBy c row) : a.grownBy c row :=
  ⟨k.os.trans h.os, k.tape.trans h.tape, k.output.trans h.output, Nat.le_trans h.size k.size, fun i hi hne => (k.block i (Nat.lt_of_lt_of_le hi h.size) hne).trans (h.block i hi hne)⟩
def w16 (x : Int) : Int := IntKind.i16.wrap x
/-- The marks k, k + 1, .. of n pairs, as 16 bits hold them. -/
def iotaP (k : Int) (n : Nat) : List (Int × Int) := (List.range n).map fun (i : Nat) => (w16 (k + 2 * (i : Int)), w16 (k + 2 * (i : Int) + 1))
theorem iotaP_length (k : Int) (n : Nat) : (iotaP k n).length = n := by simp [iotaP]
theorem iotaP_get (k : Int) (n i : Nat) (h : i < n) : (iotaP k n).getD i (0, 0) = (w16 (k + 2 * i), w16 (k + 2 * i + 1)) := by simp [iotaP, List.getD, h]
def markedP (k : Int) (ps : List (Int × Int)) (j : Nat) : List (Int × Int) := iotaP k j ++ ps.drop j
theorem markedP_length (k : Int) (ps : List (Int × Int)) (j : Nat) (h : j ≤ ps.length) : (markedP k ps j).length = ps.length := by simp [markedP, iotaP_length]; omega
theorem markedP_zero (k : Int) (ps : List (Int × Int)) : markedP k ps 0 = ps := by simp [markedP, iotaP]
theorem markedP_all (k : Int) (ps : List (Int × Int)) : markedP k ps ps.length = iotaP k ps.length := by simp [markedP]
theorem markedP_set (k : Int) (ps : List (Int × Int)) (j : Nat) (h : j < ps.length) : (markedP k ps j).set j (w16 (k + 2 * j), w16 (k + 2 * j + 1)) = markedP k ps (j + 1) := by
  unfold markedP
  rw [List.set_append_right _ _ (by simp [iotaP_length]), iotaP_length, Nat.sub_self, List.drop_eq_getElem_cons h, List.set_cons_zero]
  simp [iotaP, List.range_succ]

set_option maxHeartbeats 2000000 in
theorem markP_row (T : TypeId) (B g cap : Nat) (ps : List (Int × Int)) (k0 : Int) (w : World) (hown : OwnP T B w (.slice (some ⟨g, 0, none⟩) ps.length cap) ps) (h0 : 0 ≤ k0) (h1 : k0 ≤ 1048576) (hx : ps.length ≤ 1048576) :
    Calls Tryd.prog 14 #[.slice (some ⟨g, 0, none⟩) ps.length cap, .int .i64 k0] w fun e w' => e = .returned (.int .i64 (k0 + 2 * ps.length)) ∧ OwnP T B w' (.slice (some ⟨g, 0, none⟩) ps.length cap) (iotaP k0 ps.length) ∧ w.grownBy w' (some g) := by
  go_enter Tryd.func14, Tryd.ntmps14
  go_wp2
  go_loopw [1, 5] (fun q i wr => ∃ j : Nat, j ≤ ps.length ∧ i = .int .i64 j ∧ q = .int .i64 (k0 + 2 * j) ∧ wr.ownsRow B T 2 (.slice (some ⟨g, 0, none⟩) ps.length cap) ps.length (flatP (markedP k0 ps j)) ∧ w.grownBy wr (some g)) (fun _ i _ => ps.length - (intOf i).toNat)
  case atStart => exact ⟨0, Nat.zero_le _, rfl, by simp, by rw [markedP_zero]; exact hown, World.grownBy.refl _ _⟩
  case round =>
    obtain ⟨j, hj, rfl, rfl, hor, hgr⟩ := hrel
    have HG := Lib.hid hgr
    by_cases hlt : j < ps.length
    · have hml : (markedP k0 ps j).length = ps.length := markedP_length k0 ps j hj
      have c0 := hor.cellAt (j * 2) (by omega)
      have c1 := hor.cellAt (j * 2 + 1) (by omega)
      rw [flatP_0 _ _ (by rw [hml]; exact hlt)] at c0
      rw [flatP_1 _ _ (by rw [hml]; exact hlt)] at c1
      have f0 := hor.frozenAt (j * 2)
      have f1 := hor.frozenAt (j * 2 + 1)
      obtain ⟨y, hy⟩ : ∃ y, (markedP k0 ps j).getD j (0, 0) = y := ⟨_, rfl⟩
      rw [hy] at c0 c1
      obtain ⟨x, y⟩ := y
      have S1 := hor.stored (j * 2) (.int .i16 (w16 (k0 + 2 * j)))
      have S2 := S1.1.stored (j * 2 + 1) (.int .i16 (w16 (k0 + 2 * j + 1)))
      have S3 := S2.1
      rw [flatP_set _ _ _ _ (by rw [hml]; exact hlt), markedP_set k0 ps j hlt] at S3
      have G1 := S1.2
      have G2 := S2.2
      unfold w16 at S3 G1 G2
      have HS := Lib.hid S3
      have HG1 := Lib.hid G1
      have HG2 := Lib.hid G2
      clear S1 S2 S3 G1 G2 hor hown hgr hy hml
      go_wp2
      go_roundw
      case rel => exact ⟨j + 1, by omega, by go_num, by go_num, HS.out, grown_trans HG.out (grown_trans HG1.out HG2.out)⟩
      case measure => simp [intOf]; omega
    · have hj' : j = ps.length := by omega
      have HO : Hid (wr.ownsRow B T 2 (.slice (some ⟨g, 0, none⟩) ps.length cap) ps.length (flatP (iotaP k0 ps.length))) := Lib.hid (by rw [hj', markedP_all] at hor; exact hor)
      have HJ := Lib.hid hj'
      clear hor hown hgr hj'
      go_wp2
      go_ret
      refine ⟨by rw [HJ.out]; rfl, ?_, HG.out⟩
      have h := HO.out
      unfold OwnP
      rw [iotaP_length]
      exact h

set_option maxHeartbeats 1000000 in
theorem markP_nil (k0 : Int) (w : World) :
    Calls Tryd.prog 14 #[.slice none 0 0, .int .i64 k0] w fun e w' => e = .returned (.int .i64 k0) ∧ w = w' := by
  go_enter Tryd.func14, Tryd.ntmps14
  go_wp2
  refine wp_loop_rounds 1 ?_
  rw [rounds_succ]
  go_wp2
  go_ret
  exact ⟨rfl, rfl⟩

theorem markP_any (T : TypeId) (B : Nat) (v : Value) (ps : List (Int × Int)) (k0 : Int) (w : World) (hown : OwnP T B w v ps) (h0 : 0 ≤ k0) (h1 : k0 ≤ 1048576) (hx : ps.length ≤ 1048576) :
    Calls Tryd.prog 14 #[v, .int .i64 k0] w fun e w' => e = .returned (.int .i64 (k0 + 2 * ps.length)) ∧ OwnP T B w' v (iotaP k0 ps.length) ∧ w.grownBy w' v.ownBlock := by
  rcases hown.cases with ⟨rfl, rfl⟩ | ⟨g, cap, rfl, _⟩
  · exact (markP_nil k0 w).mono fun e w' ⟨he, hw⟩ => ⟨by rw [he]; simp, by subst hw; simpa [iotaP] using hown, by subst hw; exact World.grownBy.refl _ _⟩
  · exact markP_row T B g cap ps k0 w hown h0 h1 hx

set_option maxHeartbeats 2000000 in
theorem heldP_row (g n cap : Nat) (k0 : Int) (w : World) (hc : CellsP w g (iotaP k0 n)) (h0 : 0 ≤ k0) (h1 : k0 ≤ 1048576) (hn : n ≤ 1048576) :
    Calls Tryd.prog 15 #[.slice (some ⟨g, 0, none⟩) n cap, .int .i64 k0] w fun e w' => e = .returned (.int .i64 (k0 + 2 * n)) ∧ Below w.heap.size w w' := by
  go_enter Tryd.func15, Tryd.ntmps15
  go_wp2
  go_loopw [1, 5] (fun q i wr => ∃ j : Nat, j ≤ n ∧ i = .int .i64 j ∧ q = .int .i64 (k0 + 2 * j) ∧ Below w.heap.size w wr) (fun _ i _ => n - (intOf i).toNat)
  case atStart => exact ⟨0, Nat.zero_le _, rfl, by simp, Below.refl _ _⟩
  case round =>
    obtain ⟨j, hj, rfl, rfl, hnx⟩ := hrel
    have HG := Lib.hid hnx
    by_cases hlt : j < n
    · obtain ⟨c0, c1⟩ := hc.below hnx j (by rw [iotaP_length]; exact hlt)
      rw [iotaP_get _ _ _ hlt] at c0 c1
      unfold w16 at c0 c1
      simp only at c0 c1
      clear hnx hc
      go_wp2
      go_roundw
      case rel => exact ⟨j + 1, by omega, by go_num, by go_num, HG.out⟩
      case measure => simp [intOf]; omega
    · have hj' : j = n := by omega
      have HJ := Lib.hid hj'
      clear hnx hj' hc
      go_wp2
      go_ret
      exact ⟨by rw [HJ.out]; rfl, HG.out⟩

set_option maxHeartbeats 1000000 in
theorem heldP_zero (a : Option Addr) (cap : Nat) (k0 : Int) (w : World) :
    Calls Tryd.prog 15 #[.slice a 0 cap, .int .i64 k0] w fun e w' => e = .returned (.int .i64 k0) ∧ w = w' := by
  go_enter Tryd.func15, Tryd.ntmps15
  go_wp2
  refine wp_loop_rounds 1 ?_
  rw [rounds_succ]
  go_wp2
  go_ret
  exact ⟨rfl, rfl⟩

theorem heldP_any (v : Value) (n : Nat) (k0 : Int) (w : World) (hv : ReadsP w v (iotaP k0 n)) (h0 : 0 ≤ k0) (h1 : k0 ≤ 1048576) (hn : n ≤ 1048576) :
    Calls Tryd.prog 15 #[v, .int .i64 k0] w fun e w' => e = .returned (.int .i64 (k0 + 2 * n)) ∧ Below w.heap.size w w' := by
  obtain ⟨a, cap, rfl, h⟩ := hv
  rw [iotaP_length]
  by_cases hz : n = 0
  · subst hz
    exact (heldP_zero a cap k0 w).mono fun e w' ⟨he, hw⟩ => ⟨by rw [he]; simp, by subst hw; exact Below.refl _ _⟩
  · obtain ⟨b, rfl, hc⟩ := h (fun e => hz (by rw [← iotaP_length k0 n, e]; rfl))
    exact heldP_row b n cap k0 w hc h0 h1 hn

theorem flatP_cells {w : World} {b : Nat} {ps : List (Int × Int)} (h : CellsP w b ps) : ∀ j u, (flatP ps)[j]? = some u → w.cell? ((⟨b, 0, none⟩ : Addr).add j) = some u := by
  intro j u hj
  have hjl : j < ps.length * 2 := by
    have := (List.getElem?_eq_some_iff.1 hj).1
    rwa [flatP_length] at this
  rw [addr_add, Nat.zero_add]
  have h2 : j = (j / 2) * 2 ∨ j = (j / 2) * 2 + 1 := by omega
  have hc := h (j / 2) (by omega)
  rcases h2 with h2 | h2
  · rw [h2, flatP_0 _ _ (by omega)] at hj
    rw [h2, hc.1]; exact hj
  · rw [h2, flatP_1 _ _ (by omega)] at hj
    rw [h2, hc.2]; exact hj
theorem flatP_oneCell (ps : List (Int × Int)) : ∀ u ∈ flatP ps, u.oneCell' = true := by
  intro u hu
  simp [flatP, flatE, encP] at hu
  obtain ⟨a, b, _, rfl | rfl⟩ := hu <;> rfl

def RetP (T : TypeId) (B : Nat) (w : World) (ps : List (Int × Int)) (e : Ending) (w' : World) : Prop := ∃ v, e = .returned v ∧ OwnP T B w' v ps ∧ Below w.heap.size w w'

end Go.Proofs.YtbclmafplaipaaaDoor
