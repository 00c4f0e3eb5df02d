/-
  LoadFor's closure.
-/
import Derived.Test.YtadhoodddedjjaaLdC
import Derived.Deep.RegionHeld3
namespace Go.Proofs.Ytadhoodddedjjaa
open Go Go.RowKit
set_option linter.unusedVariables false

/-- How two indices are compared. -/
def cmpL (ps : List (Int × Int)) (i j : Nat) : Int := orZ (cmpZ (ps.getD j (0, 0)).1 (ps.getD i (0, 0)).1) (cmpZ (j : Int) (i : Int))

set_option maxHeartbeats 4000000 in
set_option maxRecDepth 100000 in
theorem lcmp_any (B b len cap i j : Nat) (ps : List (Int × Int)) (hl : ps.length = len) (h10 : len ≤ 10) (hi : i < len) (hj : j < len) (w : World) (hB : w.cell? ⟨B, 0, none⟩ = some (.slice (some ⟨b, 0, none⟩) len cap)) (hc : CellsQ w b ps) :
    Calls Try.prog 55 #[.int .i64 i, .int .i64 j, .pointer (some ⟨B, 0, none⟩)] w fun e w' => e = .returned (.int .i64 (cmpL ps i j)) ∧ Below w.heap.size w w' := by
  obtain ⟨c0, _⟩ := hc i (by omega)
  obtain ⟨d0, _⟩ := hc j (by omega)
  have HE : Hid (cmpL ps i j = orZ (cmpZ (ps.getD j (0, 0)).1 (ps.getD i (0, 0)).1) (cmpZ (j : Int) (i : Int))) := Lib.hid rfl
  obtain ⟨x, hx⟩ : ∃ x, (ps.getD i (0, 0)).1 = x := ⟨_, rfl⟩
  obtain ⟨y, hy⟩ : ∃ y, (ps.getD j (0, 0)).1 = y := ⟨_, rfl⟩
  rw [hx] at c0 HE
  rw [hy] at d0 HE
  have hil : (i : Int) < (len : Int) := by omega
  have hjl : (j : Int) < (len : Int) := by omega
  have hi0 : (0 : Int) ≤ (i : Int) := by omega
  have hj0 : (0 : Int) ≤ (j : Int) := by omega
  clear hc hx hy hl
  obtain ⟨p, hp⟩ : ∃ p, cmpZ y x = p := ⟨_, rfl⟩
  obtain ⟨q, hq⟩ : ∃ q, cmpZ (j : Int) (i : Int) = q := ⟨_, rfl⟩
  rw [hp, hq] at HE
  have HP := Lib.hid hp
  have HQ := Lib.hid hq
  clear hp hq
  go_enter Try.func55, Try.ntmps55
  go_wp2_with fail
  go_region_held3 (fun v => v.cell? ⟨B, 0, none⟩ = some (.slice (some ⟨b, 0, none⟩) len cap) ∧ v.cell? ⟨b, i * 2, none⟩ = some (.int .i8 x) ∧ v.cell? ⟨b, j * 2, none⟩ = some (.int .i8 y)) (go_keep)
    (first
      | (go_at_call 57; refine (cmp8_any y x _).mono ?_; rintro e z ⟨rfl, rfl⟩; rw [HP.out])
      | (go_at_call 58; refine (cmp64_any (j : Int) (i : Int) _).mono ?_; rintro e z ⟨rfl, rfl⟩; rw [HQ.out])
      | (go_at_call 56; refine (or2_any w.heap.size p q _ (cell_of_row _ w.heap.size 0 _ 3 (0, 0) (heap_alloc_new w _)) (cell_of_row _ w.heap.size 1 _ 3 (0, 0) (heap_alloc_new w _))).mono ?_; rintro e z ⟨rfl, rfl⟩))
  go_wp2_with fail
  go_ret
  exact ⟨by rw [HE.out]; rfl, ((Below.refl _ _).alloc (Nat.le_refl _) _).drew⟩
end Go.Proofs.Ytadhoodddedjjaa
