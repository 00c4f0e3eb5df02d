/-
  What the sort of vouchers' indices calls: cmp.Compare at int16, the closures.
-/
import Derived.Test.YtgimpmdiilmkoaaDoorPvO
import Derived.Test.YtgimpmdiilmkoaaDoorRVoucher
import Derived.Deep.RegionHeld3
namespace Go.Proofs.YtgimpmdiilmkoaaDoor
open Go Go.RowKit
set_option linter.unusedVariables false

set_option maxHeartbeats 1000000 in
theorem nan16_any (x : Int) (w : World) : Calls Tryd.prog 119 #[.int .i16 x] w fun e w' => e = .returned (.bool false) ∧ w = w' := by
  have h : (x != x) = false := by simp
  go_enter Tryd.func119, Tryd.ntmps119
  go_wp2
  go_ret
  exact ⟨rfl, rfl⟩
set_option maxHeartbeats 2000000 in
theorem cmp16_any (x y : Int) (w : World) : Calls Tryd.prog 100 #[.int .i16 x, .int .i16 y] w fun e w' => e = .returned (.int .i64 (cmpY x y)) ∧ w = w' := by
  rcases Int.lt_trichotomy x y with h | h | h
  · have HE : Hid (cmpY x y = -1) := Lib.hid (by simp [cmpY, h])
    have t1 : decide (x < y) = true := decide_eq_true h
    rw [HE.out]
    go_enter Tryd.func100, Tryd.ntmps100
    go_wp2_with (go_at_call 119; refine (nan16_any _ _).mono ?_; rintro e w2 ⟨rfl, rfl⟩)
    go_ret
    exact ⟨rfl, rfl⟩
  · subst h
    have HE : Hid (cmpY x x = 0) := Lib.hid (by simp [cmpY])
    have t1 : decide (x < x) = false := by simp
    rw [HE.out]
    go_enter Tryd.func100, Tryd.ntmps100
    go_wp2_with (go_at_call 119; refine (nan16_any _ _).mono ?_; rintro e w2 ⟨rfl, rfl⟩)
    go_ret
    exact ⟨rfl, rfl⟩
  · have HE : Hid (cmpY x y = 1) := Lib.hid (by simp [cmpY, h, show ¬ x < y by omega])
    have t1 : decide (x < y) = false := decide_eq_false (by omega)
    have t2 : decide (y < x) = true := decide_eq_true h
    rw [HE.out]
    go_enter Tryd.func100, Tryd.ntmps100
    go_wp2_with (go_at_call 119; refine (nan16_any _ _).mono ?_; rintro e w2 ⟨rfl, rfl⟩)
    go_ret
    exact ⟨rfl, rfl⟩
set_option maxHeartbeats 2000000 in
theorem pcmp_any (a u c v : Int) (w : World) : Calls Tryd.prog 99 #[.agg #[.int .i32 a, .int .i16 u], .agg #[.int .i32 c, .int .i16 v]] w fun e w' => e = .returned (.int .i64 (cmpY u v)) ∧ Below w.heap.size w w' := by
  obtain ⟨q, hq⟩ : ∃ q, cmpY u v = q := ⟨_, rfl⟩
  rw [hq]
  have HQ := Lib.hid hq
  clear hq
  go_enter Tryd.func99, Tryd.ntmps99
  go_wp2_with (go_at_call 100; refine (cmp16_any u v _).mono ?_; rintro e w2 ⟨rfl, rfl⟩; rw [HQ.out])
  go_ret
  exact ⟨rfl, by repeat (first | exact Below.refl _ _ | refine Below.drew ?_ | refine Below.alloc ?_ (by first | (simp; done) | (simp; omega) | omega) _)⟩

set_option maxHeartbeats 4000000 in
set_option maxRecDepth 100000 in
theorem ucmp_any (F B b len cap i j : Nat) (ps : List (Int × Int)) (hl : ps.length = len) (h12 : len ≤ 12) (hi : i < len) (hj : j < len) (w : World) (hF : w.cell? ⟨F, 0, none⟩ = some (.func (.func 99) #[] #[])) (hB : w.cell? ⟨B, 0, none⟩ = some (.slice (some ⟨b, 0, none⟩) len cap)) (hc : CellsVo w b ps) :
    Calls Tryd.prog 118 #[.int .i64 i, .int .i64 j, .pointer (some ⟨F, 0, none⟩), .pointer (some ⟨B, 0, none⟩)] w fun e w' => e = .returned (.int .i64 (cmpY (unt ps i) (unt ps j))) ∧ Below w.heap.size w w' := by
  obtain ⟨c0, c1⟩ := hc i (by omega)
  obtain ⟨d0, d1⟩ := hc j (by omega)
  have HE : Hid (cmpY (unt ps i) (unt ps j) = cmpY (ps.getD i (0, 0)).2 (ps.getD j (0, 0)).2) := Lib.hid rfl
  obtain ⟨x, hx⟩ : ∃ x, ps.getD i (0, 0) = x := ⟨_, rfl⟩
  obtain ⟨y, hy⟩ : ∃ y, ps.getD j (0, 0) = y := ⟨_, rfl⟩
  rw [hx] at c0 c1 HE
  rw [hy] at d0 d1 HE
  obtain ⟨x0, x1⟩ := x
  obtain ⟨y0, y1⟩ := y
  simp only at c0 c1 d0 d1 HE
  have hil : (i : Int) < (len : Int) := by omega
  have hjl : (j : Int) < (len : Int) := by omega
  have hi0 : (0 : Int) ≤ (i : Int) := by omega
  have hj0 : (0 : Int) ≤ (j : Int) := by omega
  have lF : F < w.heap.size := World.block_lt_of_cell? w _ hF
  have lB : B < w.heap.size := World.block_lt_of_cell? w _ hB
  have lb : b < w.heap.size := World.block_lt_of_cell? w _ c0
  clear hc hx hy hl
  obtain ⟨q, hq⟩ : ∃ q, cmpY x1 y1 = q := ⟨_, rfl⟩
  rw [hq] at HE
  have HQ := Lib.hid hq
  clear hq
  go_enter Tryd.func118, Tryd.ntmps118
  go_wp2_with fail
  go_region_held3 (fun z => z.cell? ⟨F, 0, none⟩ = some (.func (.func 99) #[] #[]) ∧ z.cell? ⟨B, 0, none⟩ = some (.slice (some ⟨b, 0, none⟩) len cap) ∧ z.cell? ⟨b, i * 2, none⟩ = some (.int .i32 x0) ∧ z.cell? ⟨b, i * 2 + 1, none⟩ = some (.int .i16 x1) ∧ z.cell? ⟨b, j * 2, none⟩ = some (.int .i32 y0) ∧ z.cell? ⟨b, j * 2 + 1, none⟩ = some (.int .i16 y1)) (first | exact zS | go_keep)
    ((refine (pcmp_any x0 x1 y0 y1 w.drew).mono ?_; rintro e z ⟨rfl, bz⟩; rw [HQ.out]; have zB : Below w.heap.size w z := ((Below.refl _ _).drew).trans bz; have zS : z.cell? ⟨F, 0, none⟩ = some (.func (.func 99) #[] #[]) ∧ z.cell? ⟨B, 0, none⟩ = some (.slice (some ⟨b, 0, none⟩) len cap) ∧ z.cell? ⟨b, i * 2, none⟩ = some (.int .i32 x0) ∧ z.cell? ⟨b, i * 2 + 1, none⟩ = some (.int .i16 x1) ∧ z.cell? ⟨b, j * 2, none⟩ = some (.int .i32 y0) ∧ z.cell? ⟨b, j * 2 + 1, none⟩ = some (.int .i16 y1) := ⟨(zB.cell (p := ⟨F, 0, none⟩) lF).trans hF, (zB.cell (p := ⟨B, 0, none⟩) lB).trans hB, (zB.cell (p := ⟨b, i * 2, none⟩) lb).trans c0, (zB.cell (p := ⟨b, i * 2 + 1, none⟩) lb).trans c1, (zB.cell (p := ⟨b, j * 2, none⟩) lb).trans d0, (zB.cell (p := ⟨b, j * 2 + 1, none⟩) lb).trans d1⟩))
  go_wp2_with fail
  go_ret
  exact ⟨by rw [HE.out]; rfl, zB⟩
end Go.Proofs.YtgimpmdiilmkoaaDoor
