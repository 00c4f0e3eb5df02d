/-
  Whether a slice of matches has one: the program's.
-/
import Derived.Test.YtgimpmdiilmkoaaDoorCmP
import Derived.Test.YtgimpmdiilmkoaaDoorRfI
namespace Go.Proofs.YtgimpmdiilmkoaaDoor
open Go Go.RowKit
set_option linter.unusedVariables false

noncomputable def hasM (qs : List Q3) (q : Q3) : Bool := @decide (∃ j, j < qs.length ∧ qs.getD j (0, 0, 0) = q) (Classical.propDecidable _)
theorem hasM_hit {qs : List Q3} {q : Q3} (j : Nat) (hj : j < qs.length) (h : qs.getD j (0, 0, 0) = q) : hasM qs q = true := @decide_eq_true _ (Classical.propDecidable _) ⟨j, hj, h⟩
theorem hasM_miss {qs : List Q3} {q : Q3} (h : ∀ j, j < qs.length → qs.getD j (0, 0, 0) ≠ q) : hasM qs q = false := @decide_eq_false _ (Classical.propDecidable _) (fun ⟨j, hj, e⟩ => h j hj e)
theorem ret_bM {a b : Bool} (h : a = b) : Ending.returned (.bool a) = .returned (.bool b) := by rw [h]

set_option maxRecDepth 100000 in
set_option maxHeartbeats 2000000 in
theorem indexM_any (a : Option Addr) (b len cap : Nat) (qs : List Q3) (x0 x1 x2 : Int) (hl : qs.length = len) (hm : len ≤ 1048576) (ha : len ≠ 0 → a = some ⟨b, 0, none⟩) (w : World) (hc : CellsMa w b qs) :
    Calls Tryd.prog 120 #[.slice a len cap, .agg #[.int .i8 x0, .int .i8 x1, .int .i16 x2]] w fun e w' => (∃ r : Int, e = .returned (.int .i64 r) ∧ decide (0 ≤ r) = hasM qs (x0, x1, x2)) ∧ Below w.heap.size w w' := by
  have HL := Lib.hid hl
  have HA := Lib.hid ha
  have HC := Lib.hid hc
  clear hl ha hc
  go_enter Tryd.func120, Tryd.ntmps120
  go_wp2_with fail
  obtain ⟨W1, e1⟩ : ∃ V, w.alloc (.cells #[.int .i8 x0, .int .i8 x1, .int .i16 x2] 111) = V := ⟨_, rfl⟩
  have s1 : W1.heap.size = w.heap.size + 1 := by rw [← e1]; simp
  have z0 : W1.cell? ⟨w.heap.size, 0, none⟩ = some (.int .i8 x0) := by rw [← e1]; simp
  have z1 : W1.cell? ⟨w.heap.size, 1, none⟩ = some (.int .i8 x1) := by rw [← e1]; simp
  have z2 : W1.cell? ⟨w.heap.size, 2, none⟩ = some (.int .i16 x2) := by rw [← e1]; simp
  have HB1 : Hid (Below w.heap.size w W1) := Lib.hid (by rw [← e1]; exact (Below.refl _ _).alloc (Nat.le_refl _) _)
  have HZ := Lib.hid (And.intro z0 (And.intro z1 z2))
  try rw [e1]
  clear e1 z0 z1 z2
  go_loopw [8] (fun i wr => ∃ k : Nat, k ≤ len ∧ i = .int .i64 k ∧ (∀ j, j < k → qs.getD j (0, 0, 0) ≠ (x0, x1, x2)) ∧ Below W1.heap.size W1 wr) (fun i _ => len - (intOf i).toNat)
  case atStart => exact ⟨0, Nat.zero_le _, rfl, fun j hj => absurd hj (by omega), Below.refl _ _⟩
  case round =>
    obtain ⟨k, hk, rfl, hall, hww⟩ := hrel
    have HALL := Lib.hid hall
    have HB := Lib.hid hww
    have z0 := (hww.cell (p := ⟨w.heap.size, 0, none⟩) (by simp only; omega)).trans HZ.out.1
    have z1 := (hww.cell (p := ⟨w.heap.size, 1, none⟩) (by simp only; omega)).trans HZ.out.2.1
    have z2 := (hww.cell (p := ⟨w.heap.size, 2, none⟩) (by simp only; omega)).trans HZ.out.2.2
    by_cases hlt : k < len
    · obtain rfl := HA.out (by omega)
      obtain ⟨c0, c1, c2⟩ := ((HC.out.below HB1.out).below hww) k (by have := HL.out; omega)
      obtain ⟨q, hq⟩ : ∃ q, qs.getD k (0, 0, 0) = q := ⟨_, rfl⟩
      rw [hq] at c0 c1 c2
      obtain ⟨y0, y1, y2⟩ := q
      simp only at c0 c1 c2
      have HQ := Lib.hid hq
      have hkl : (k : Int) < (len : Int) := by omega
      clear hq hall hww
      by_cases t : x0 = y0 ∧ x1 = y1 ∧ x2 = y2
      · obtain ⟨rfl, rfl, rfl⟩ := t
        have HH := Lib.hid (hasM_hit k (by have := HL.out; omega) HQ.out)
        go_wp2_with fail
        go_quiet (fail)
        go_wp2_with fail
        go_ret
        exact ⟨⟨_, rfl, by rw [HH.out]; exact decide_eq_true (by omega)⟩, below_drewN (HB1.out.trans (HB.out.mono (by omega))) _⟩
      · have HN : Hid (∀ j, j < k + 1 → qs.getD j (0, 0, 0) ≠ (x0, x1, x2)) := Lib.hid (fun j hj => by
          by_cases e : j = k
          · subst e; rw [HQ.out]; intro h; simp only [Prod.mk.injEq] at h; exact t ⟨h.1.symm, h.2.1.symm, h.2.2.symm⟩
          · exact HALL.out j (by omega))
        have te : decide (x0 = y0 ∧ x1 = y1 ∧ x2 = y2) = false := decide_eq_false t
        by_cases t0 : x0 = y0
        · by_cases t1 : x1 = y1
          · have t2 : ¬ x2 = y2 := fun h => t ⟨t0, t1, h⟩
            have e0 : (x0 == y0) = true := by simpa using t0
            have e1 : (x1 == y1) = true := by simpa using t1
            have e2 : (x2 == y2) = false := by simpa using t2
            clear t te t0 t1 t2
            go_wp2_with fail
            go_quiet (fail)
            go_wp2_with fail
            go_roundw
            case rel => exact ⟨k + 1, by omega, by go_num, HN.out, below_drewN HB.out _⟩
            case measure => simp [intOf]; omega
          · have e0 : (x0 == y0) = true := by simpa using t0
            have e1 : (x1 == y1) = false := by simpa using t1
            clear t te t0 t1
            go_wp2_with fail
            go_quiet (fail)
            go_wp2_with fail
            go_roundw
            case rel => exact ⟨k + 1, by omega, by go_num, HN.out, below_drewN HB.out _⟩
            case measure => simp [intOf]; omega
        · have e0 : (x0 == y0) = false := by simpa using t0
          clear t te t0
          go_wp2_with fail
          go_quiet (fail)
          go_wp2_with fail
          go_roundw
          case rel => exact ⟨k + 1, by omega, by go_num, HN.out, below_drewN HB.out _⟩
          case measure => simp [intOf]; omega
    · have HH := Lib.hid (hasM_miss (qs := qs) (q := (x0, x1, x2)) (fun j hj => hall j (by have := HL.out; omega)))
      clear hall hww
      go_wp2_with fail
      go_ret
      exact ⟨⟨_, rfl, by rw [HH.out]; rfl⟩, HB1.out.trans (HB.out.mono (by omega))⟩

set_option maxRecDepth 100000 in
set_option maxHeartbeats 2000000 in
theorem containsM_any (a : Option Addr) (b len cap : Nat) (qs : List Q3) (x0 x1 x2 : Int) (hl : qs.length = len) (hm : len ≤ 1048576) (ha : len ≠ 0 → a = some ⟨b, 0, none⟩) (w : World) (hc : CellsMa w b qs) :
    Calls Tryd.prog 103 #[.slice a len cap, .agg #[.int .i8 x0, .int .i8 x1, .int .i16 x2]] w fun e w' => e = .returned (.bool (hasM qs (x0, x1, x2))) ∧ Below w.heap.size w w' := by
  have hB0 : Below w.heap.size w (w.alloc (.cells #[.int .i8 x0, .int .i8 x1, .int .i16 x2] 111)) := (Below.refl _ _).alloc (Nat.le_refl _) _
  have HI := Lib.hid (indexM_any a b len cap qs x0 x1 x2 hl hm ha _ (hc.below hB0))
  have HB0 := Lib.hid hB0
  clear hl ha hc hB0
  go_enter Tryd.func103, Tryd.ntmps103
  go_wp2_with fail
  refine HI.out.mono ?_
  rintro e w2 ⟨⟨r, rfl, hr⟩, b2⟩
  have HR := Lib.hid hr
  have HB := Lib.hid (HB0.out.trans (b2.mono (by simp)))
  obtain ⟨q, hq⟩ : ∃ q, decide (0 ≤ r) = q := ⟨_, rfl⟩
  have HQ := Lib.hid hq
  clear hr b2
  go_wp2_with fail
  go_ret
  exact ⟨ret_bM (HQ.out.symm.trans HR.out), HB.out⟩
end Go.Proofs.YtgimpmdiilmkoaaDoor
