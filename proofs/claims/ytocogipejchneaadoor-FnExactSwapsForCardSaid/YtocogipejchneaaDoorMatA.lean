/-
  Contracts of the laws' own helpers over [][]int64.
-/
import Derived.Test.YtocogipejchneaaDoorMatI
import Derived.StillTailTactics
namespace Go.Proofs.YtocogipejchneaaDoor
open Go Go.RowKit
set_option linter.unusedVariables false

theorem info_rows : (Tryd.prog.info? 22).map (fun i => (i.zero, i.size, i.bytes)) = some (some (.slice none 0 0), 1, 24) := by kernel_rfl

theorem IsRow.len_ok {k : IntKind} {w : World} {a : Option Addr} {len cap : Nat} {z : List Int} (hr : IsRow k w a len cap z) : len ≤ 9223372036854775807 := by
  rcases hr with ⟨_, rfl, _, _⟩ | ⟨x, _, h1, h2, _⟩
  · omega
  · unfold maxLen at h2; omega
theorem IsRows.len_ok {w : World} {a : Option Addr} {len cap : Nat} {R : List (List Int)} (hr : IsRows w a len cap R) : len ≤ 9223372036854775807 := by
  rcases hr with ⟨_, rfl, _, _⟩ | ⟨x, _, h1, h2, _⟩
  · omega
  · unfold maxLen at h2; omega

set_option maxHeartbeats 2000000 in
set_option maxRecDepth 100000 in
theorem eqM_row (b c len cap cap2 : Nat) (R : List (List Int)) (hl : R.length = len) (hm : len ≤ 1048576) (hr : ∀ j, j < len → (R.getD j []).length ≤ 1048576) (w : World)
    (hcx : ∀ j, j < R.length → ∃ u, w.cell? ⟨b, j, none⟩ = some u ∧ ReadsI w u (R.getD j [])) (hcy : ∀ j, j < R.length → ∃ u, w.cell? ⟨c, j, none⟩ = some u ∧ ReadsI w u (R.getD j [])) :
    Calls Tryd.prog 8 #[.slice (some ⟨b, 0, none⟩) len cap, .slice (some ⟨c, 0, none⟩) len cap2] w fun e w' => e = .returned (.bool true) ∧ Below w.heap.size w w' := by
  have HL := Lib.hid hl
  have HX := Lib.hid hcx
  have HY := Lib.hid hcy
  have HR := Lib.hid hr
  clear hl hcx hcy hr
  go_enter Tryd.func8, Tryd.ntmps8
  go_wp2_with fail
  go_loopw [5] (fun i wr => ∃ k : Nat, k ≤ len ∧ i = .int .i64 k ∧ Below w.heap.size w wr) (fun i _ => len - (intOf i).toNat)
  case atStart => exact ⟨0, Nat.zero_le _, rfl, Below.refl _ _⟩
  case round =>
    obtain ⟨k, hk, rfl, hnx⟩ := hrel
    have HB := Lib.hid hnx
    by_cases hlt : k < len
    · obtain ⟨u, c0, r0⟩ := HX.out k (by have := HL.out; omega)
      obtain ⟨v, d0, s0⟩ := HY.out k (by have := HL.out; omega)
      have c0' : wr.cell? ⟨b, k, none⟩ = some u := by rw [hnx.cell (p := ⟨b, k, none⟩) (World.block_lt_of_cell? w _ c0)]; exact c0
      have d0' : wr.cell? ⟨c, k, none⟩ = some v := by rw [hnx.cell (p := ⟨c, k, none⟩) (World.block_lt_of_cell? w _ d0)]; exact d0
      have r1 := r0.below hnx
      have s1 := s0.below hnx
      obtain ⟨ua, uc, rfl, ru⟩ := r1
      obtain ⟨va, vc, rfl, rv⟩ := s1
      have HU : Hid (ReadsI wr (.slice ua (R.getD k []).length uc) (R.getD k [])) := Lib.hid ⟨ua, uc, rfl, ru⟩
      have HV : Hid (ReadsI wr (.slice va (R.getD k []).length vc) (R.getD k [])) := Lib.hid ⟨va, vc, rfl, rv⟩
      have HRK := Lib.hid (HR.out k hlt)
      have hwr : w.heap.size ≤ wr.heap.size := hnx.size
      have hkl : (k : Int) < (len : Int) := by omega
      obtain ⟨xs, hxs⟩ : ∃ xs, R.getD k [] = xs := ⟨_, rfl⟩
      rw [hxs] at HU HV HRK c0' d0'
      clear c0 d0 r0 s0 ru rv hnx hxs
      go_wp2_with fail
      go_still_tail 8, (by kernel_rfl)
      change wpList _ _ _ _ _ wr.drew
      have HBD : Hid (Below w.heap.size w wr.drew) := Lib.hid HB.out.drew
      have HUD : Hid (ReadsI wr.drew (.slice ua xs.length uc) xs) := Lib.hid (HU.out.below (Below.refl _ _).drew)
      have HVD : Hid (ReadsI wr.drew (.slice va xs.length vc) xs) := Lib.hid (HV.out.below (Below.refl _ _).drew)
      have hwd : w.heap.size ≤ wr.drew.heap.size := hwr
      generalize wr.drew = wd at HBD HUD HVD hwd ⊢
      go_wp2_with fail
      refine (eqI_any _ _ xs xs _ HUD.out HVD.out HRK.out HRK.out).mono ?_
      rintro e w2 ⟨rfl, b2⟩
      rw [eqB_true rfl]
      have HB2 : Hid (Below w.heap.size w w2) := Lib.hid (HBD.out.trans (b2.mono hwd))
      clear b2
      go_wp2_with fail
      go_roundw
      case rel => exact ⟨k + 1, by omega, by go_num, HB2.out⟩
      case measure => simp [intOf]; omega
    · clear hnx
      go_wp2_with fail
      go_ret
      exact ⟨rfl, HB.out⟩

set_option maxHeartbeats 1000000 in
theorem eqM_empty (a c : Option Addr) (cap cap2 : Nat) (w : World) :
    Calls Tryd.prog 8 #[.slice a 0 cap, .slice c 0 cap2] w fun e w' => e = .returned (.bool true) ∧ Below w.heap.size w w' := by
  go_enter Tryd.func8, Tryd.ntmps8
  go_wp2
  refine wp_loop_rounds 1 ?_
  rw [rounds_succ]
  go_wp2
  go_ret
  exact ⟨rfl, Below.refl _ _⟩

/-- eqInt64SS on two slices that read as the same rows. -/
theorem eqM_any (v u : Value) (R : List (List Int)) (w : World) (hv : ReadsM w v R) (hu : ReadsM w u R) (hx : R.length ≤ 1048576) (hr : ∀ j, j < R.length → (R.getD j []).length ≤ 1048576) :
    Calls Tryd.prog 8 #[v, u] w fun e w' => e = .returned (.bool true) ∧ Below w.heap.size w w' := by
  obtain ⟨a, cap, rfl, ha⟩ := hv
  obtain ⟨c, cap2, rfl, hc⟩ := hu
  by_cases h0 : R = []
  · subst h0
    exact eqM_empty a c cap cap2 w
  · obtain ⟨b1, rfl, c1⟩ := ha h0
    obtain ⟨b2, rfl, c2⟩ := hc h0
    exact eqM_row b1 b2 R.length cap cap2 R rfl hx hr w c1 c2

end Go.Proofs.YtocogipejchneaaDoor
