/-
  Whether a return can be matched with an order: the program's.
-/
import Derived.Test.YtgimpmdiilmkoaaDoorCmC
import Derived.Test.YtgimpmdiilmkoaaDoorRfI
namespace Go.Proofs.YtgimpmdiilmkoaaDoor
open Go Go.RowKit
set_option linter.unusedVariables false

set_option maxHeartbeats 8000000 in
set_option maxRecDepth 100000 in
theorem ican_any (b b2 m cap n cap2 i j : Nat) (o0 o1 o2 o3 o4 r0 r1 r2 r3 days : Int) (hm : m ≤ 40) (hn : n ≤ 40) (hj : j < m) (hi : i < n) (ho4 : -32768 ≤ o4 ∧ o4 ≤ 32767) (hr3 : -32768 ≤ r3 ∧ r3 ≤ 32767) (w : World)
    (c0 : w.cell? ⟨b, j * 5, none⟩ = some (.int .i8 o0)) (c1 : w.cell? ⟨b, j * 5 + 1, none⟩ = some (.int .i8 o1)) (c2 : w.cell? ⟨b, j * 5 + 2, none⟩ = some (.int .i16 o2)) (c3 : w.cell? ⟨b, j * 5 + 3, none⟩ = some (.int .i16 o4)) (c4 : w.cell? ⟨b, j * 5 + 4, none⟩ = some (.int .i16 o3))
    (d0 : w.cell? ⟨b2, i * 4, none⟩ = some (.int .i8 r0)) (d1 : w.cell? ⟨b2, i * 4 + 1, none⟩ = some (.int .i8 r1)) (d2 : w.cell? ⟨b2, i * 4 + 2, none⟩ = some (.int .i16 r2)) (d3 : w.cell? ⟨b2, i * 4 + 3, none⟩ = some (.int .i16 r3)) :
    Calls Tryd.prog 102 #[.agg #[.slice (some ⟨b, 0, none⟩) m cap, .slice (some ⟨b2, 0, none⟩) n cap2, .int .i64 days], .int .i64 (i : Int), .int .i64 (j : Int)] w fun e w' => e = .returned (.bool (canR (o0, o1, o2, o3, o4) (r0, r1, r2, r3) days)) ∧ Below w.heap.size w w' := by
  obtain ⟨hp, hp2⟩ := ho4
  obtain ⟨hq, hq2⟩ := hr3
  have HCC := Lib.hid (And.intro c0 (And.intro c1 (And.intro c2 (And.intro c3 c4))))
  have HDD := Lib.hid (And.intro d0 (And.intro d1 (And.intro d2 d3)))
  have hb : b < w.heap.size := World.block_lt_of_cell? w _ c0
  have hb2 : b2 < w.heap.size := World.block_lt_of_cell? w _ d0
  clear c0 c1 c2 c3 c4 d0 d1 d2 d3
  have hij : (i : Int) < (n : Int) := by omega
  have hjj : (j : Int) < (m : Int) := by omega
  obtain ⟨df, hdf⟩ : ∃ x, r3 - o4 = x := ⟨_, rfl⟩
  have hd1 : -65535 ≤ df ∧ df ≤ 65535 := by omega
  obtain ⟨hd1, hd2⟩ := hd1
  obtain ⟨R, hR⟩ : ∃ B, canR (o0, o1, o2, o3, o4) (r0, r1, r2, r3) days = B := ⟨_, rfl⟩
  rw [hR]
  by_cases t0 : r0 = o0
  · by_cases t1 : r1 = o1
    · by_cases t2 : 0 ≤ df
      · by_cases t3 : df ≤ days
        · have HRB : Hid (R = true) := Lib.hid (by rw [← hR]; exact canR_true ⟨t0.symm, t1.symm, by simp only; omega, by simp only; omega⟩)
          subst t0
          subst t1
          have e2 : decide (0 ≤ df) = true := decide_eq_true t2
          have e3 : decide (df ≤ days) = true := decide_eq_true t3
          clear hR
          go_enter Tryd.func102, Tryd.ntmps102
          go_wp2_with fail
          obtain ⟨W1, e1⟩ : ∃ V, w.alloc (.cells #[.slice (some ⟨b, 0, none⟩) m cap, .slice (some ⟨b2, 0, none⟩) n cap2, .int .i64 days] 84) = V := ⟨_, rfl⟩
          have s1 : W1.heap.size = w.heap.size + 1 := by rw [← e1]; simp
          have z0 : W1.cell? ⟨w.heap.size, 0, none⟩ = some (.slice (some ⟨b, 0, none⟩) m cap) := by rw [← e1]; simp
          have z1 : W1.cell? ⟨w.heap.size, 1, none⟩ = some (.slice (some ⟨b2, 0, none⟩) n cap2) := by rw [← e1]; simp
          have z2 : W1.cell? ⟨w.heap.size, 2, none⟩ = some (.int .i64 days) := by rw [← e1]; simp
          have hal : Below w.heap.size w W1 := by rw [← e1]; exact (Below.refl _ _).alloc (Nat.le_refl _) _
          have c0 := (hal.cell (p := ⟨b, j * 5, none⟩) hb).trans HCC.out.1
          have c1 := (hal.cell (p := ⟨b, j * 5 + 1, none⟩) hb).trans HCC.out.2.1
          have c2 := (hal.cell (p := ⟨b, j * 5 + 2, none⟩) hb).trans HCC.out.2.2.1
          have c3 := (hal.cell (p := ⟨b, j * 5 + 3, none⟩) hb).trans HCC.out.2.2.2.1
          have c4 := (hal.cell (p := ⟨b, j * 5 + 4, none⟩) hb).trans HCC.out.2.2.2.2
          have d0 := (hal.cell (p := ⟨b2, i * 4, none⟩) hb2).trans HDD.out.1
          have d1 := (hal.cell (p := ⟨b2, i * 4 + 1, none⟩) hb2).trans HDD.out.2.1
          have d2 := (hal.cell (p := ⟨b2, i * 4 + 2, none⟩) hb2).trans HDD.out.2.2.1
          have d3 := (hal.cell (p := ⟨b2, i * 4 + 3, none⟩) hb2).trans HDD.out.2.2.2
          have xb : b < W1.heap.size := by omega
          have xb2 : b2 < W1.heap.size := by omega
          have xw : w.heap.size < W1.heap.size := by omega
          have xb1 : b ≤ W1.heap.size := by omega
          have xb2 : b ≠ W1.heap.size := by omega
          have xb3 : b ≠ W1.heap.size + 1 := by omega
          have xc1 : b2 ≤ W1.heap.size := by omega
          have xc2 : b2 ≠ W1.heap.size := by omega
          have xc3 : b2 ≠ W1.heap.size + 1 := by omega
          have xd1 : w.heap.size ≤ W1.heap.size := by omega
          have xd2 : w.heap.size ≠ W1.heap.size := by omega
          have xd3 : w.heap.size ≠ W1.heap.size + 1 := by omega
          have hxy : ∀ x y, Below W1.heap.size W1 ((W1.alloc x).alloc y) := fun x y => ((Below.refl _ _).alloc (Nat.le_refl _) _).alloc (by simp) _
          have yc0 := fun x y => ((hxy x y).cell (p := ⟨b, j * 5, none⟩) (by simp only; omega)).trans c0
          have yc1 := fun x y => ((hxy x y).cell (p := ⟨b, j * 5 + 1, none⟩) (by simp only; omega)).trans c1
          have yc2 := fun x y => ((hxy x y).cell (p := ⟨b, j * 5 + 2, none⟩) (by simp only; omega)).trans c2
          have yc3 := fun x y => ((hxy x y).cell (p := ⟨b, j * 5 + 3, none⟩) (by simp only; omega)).trans c3
          have yc4 := fun x y => ((hxy x y).cell (p := ⟨b, j * 5 + 4, none⟩) (by simp only; omega)).trans c4
          have yd0 := fun x y => ((hxy x y).cell (p := ⟨b2, i * 4, none⟩) (by simp only; omega)).trans d0
          have yd1 := fun x y => ((hxy x y).cell (p := ⟨b2, i * 4 + 1, none⟩) (by simp only; omega)).trans d1
          have yd2 := fun x y => ((hxy x y).cell (p := ⟨b2, i * 4 + 2, none⟩) (by simp only; omega)).trans d2
          have yd3 := fun x y => ((hxy x y).cell (p := ⟨b2, i * 4 + 3, none⟩) (by simp only; omega)).trans d3
          have yz0 := fun x y => ((hxy x y).cell (p := ⟨w.heap.size, 0, none⟩) (by simp only; omega)).trans z0
          have yz1 := fun x y => ((hxy x y).cell (p := ⟨w.heap.size, 1, none⟩) (by simp only; omega)).trans z1
          have yz2 := fun x y => ((hxy x y).cell (p := ⟨w.heap.size, 2, none⟩) (by simp only; omega)).trans z2
          clear hxy
          have HAL := Lib.hid hal
          rw [e1]
          clear e1 hal
          go_wp2_with fail
          go_region
          all_goals
            go_wp2_with fail
            go_ret
            exact ⟨(ret_boolC HRB.out).symm, by repeat (first | exact HAL.out | refine Below.drew ?_ | refine Below.setCell ?_ (by first | (simp; done) | (simp; omega) | omega) _ | refine Below.alloc ?_ (by first | (simp; done) | (simp; omega) | omega) _)⟩
        · have HRB : Hid (R = false) := Lib.hid (by rw [← hR]; exact canR_false (fun h => t3 (by have := h.2.2.2; simp only at this; omega)))
          subst t0
          subst t1
          have e2 : decide (0 ≤ df) = true := decide_eq_true t2
          have e3 : decide (df ≤ days) = false := decide_eq_false t3
          clear hR t3
          go_enter Tryd.func102, Tryd.ntmps102
          go_wp2_with fail
          obtain ⟨W1, e1⟩ : ∃ V, w.alloc (.cells #[.slice (some ⟨b, 0, none⟩) m cap, .slice (some ⟨b2, 0, none⟩) n cap2, .int .i64 days] 84) = V := ⟨_, rfl⟩
          have s1 : W1.heap.size = w.heap.size + 1 := by rw [← e1]; simp
          have z0 : W1.cell? ⟨w.heap.size, 0, none⟩ = some (.slice (some ⟨b, 0, none⟩) m cap) := by rw [← e1]; simp
          have z1 : W1.cell? ⟨w.heap.size, 1, none⟩ = some (.slice (some ⟨b2, 0, none⟩) n cap2) := by rw [← e1]; simp
          have z2 : W1.cell? ⟨w.heap.size, 2, none⟩ = some (.int .i64 days) := by rw [← e1]; simp
          have hal : Below w.heap.size w W1 := by rw [← e1]; exact (Below.refl _ _).alloc (Nat.le_refl _) _
          have c0 := (hal.cell (p := ⟨b, j * 5, none⟩) hb).trans HCC.out.1
          have c1 := (hal.cell (p := ⟨b, j * 5 + 1, none⟩) hb).trans HCC.out.2.1
          have c2 := (hal.cell (p := ⟨b, j * 5 + 2, none⟩) hb).trans HCC.out.2.2.1
          have c3 := (hal.cell (p := ⟨b, j * 5 + 3, none⟩) hb).trans HCC.out.2.2.2.1
          have c4 := (hal.cell (p := ⟨b, j * 5 + 4, none⟩) hb).trans HCC.out.2.2.2.2
          have d0 := (hal.cell (p := ⟨b2, i * 4, none⟩) hb2).trans HDD.out.1
          have d1 := (hal.cell (p := ⟨b2, i * 4 + 1, none⟩) hb2).trans HDD.out.2.1
          have d2 := (hal.cell (p := ⟨b2, i * 4 + 2, none⟩) hb2).trans HDD.out.2.2.1
          have d3 := (hal.cell (p := ⟨b2, i * 4 + 3, none⟩) hb2).trans HDD.out.2.2.2
          have xb : b < W1.heap.size := by omega
          have xb2 : b2 < W1.heap.size := by omega
          have xw : w.heap.size < W1.heap.size := by omega
          have xb1 : b ≤ W1.heap.size := by omega
          have xb2 : b ≠ W1.heap.size := by omega
          have xb3 : b ≠ W1.heap.size + 1 := by omega
          have xc1 : b2 ≤ W1.heap.size := by omega
          have xc2 : b2 ≠ W1.heap.size := by omega
          have xc3 : b2 ≠ W1.heap.size + 1 := by omega
          have xd1 : w.heap.size ≤ W1.heap.size := by omega
          have xd2 : w.heap.size ≠ W1.heap.size := by omega
          have xd3 : w.heap.size ≠ W1.heap.size + 1 := by omega
          have hxy : ∀ x y, Below W1.heap.size W1 ((W1.alloc x).alloc y) := fun x y => ((Below.refl _ _).alloc (Nat.le_refl _) _).alloc (by simp) _
          have yc0 := fun x y => ((hxy x y).cell (p := ⟨b, j * 5, none⟩) (by simp only; omega)).trans c0
          have yc1 := fun x y => ((hxy x y).cell (p := ⟨b, j * 5 + 1, none⟩) (by simp only; omega)).trans c1
          have yc2 := fun x y => ((hxy x y).cell (p := ⟨b, j * 5 + 2, none⟩) (by simp only; omega)).trans c2
          have yc3 := fun x y => ((hxy x y).cell (p := ⟨b, j * 5 + 3, none⟩) (by simp only; omega)).trans c3
          have yc4 := fun x y => ((hxy x y).cell (p := ⟨b, j * 5 + 4, none⟩) (by simp only; omega)).trans c4
          have yd0 := fun x y => ((hxy x y).cell (p := ⟨b2, i * 4, none⟩) (by simp only; omega)).trans d0
          have yd1 := fun x y => ((hxy x y).cell (p := ⟨b2, i * 4 + 1, none⟩) (by simp only; omega)).trans d1
          have yd2 := fun x y => ((hxy x y).cell (p := ⟨b2, i * 4 + 2, none⟩) (by simp only; omega)).trans d2
          have yd3 := fun x y => ((hxy x y).cell (p := ⟨b2, i * 4 + 3, none⟩) (by simp only; omega)).trans d3
          have yz0 := fun x y => ((hxy x y).cell (p := ⟨w.heap.size, 0, none⟩) (by simp only; omega)).trans z0
          have yz1 := fun x y => ((hxy x y).cell (p := ⟨w.heap.size, 1, none⟩) (by simp only; omega)).trans z1
          have yz2 := fun x y => ((hxy x y).cell (p := ⟨w.heap.size, 2, none⟩) (by simp only; omega)).trans z2
          clear hxy
          have HAL := Lib.hid hal
          rw [e1]
          clear e1 hal
          go_wp2_with fail
          go_region
          all_goals
            go_wp2_with fail
            go_ret
            exact ⟨(ret_boolC HRB.out).symm, by repeat (first | exact HAL.out | refine Below.drew ?_ | refine Below.setCell ?_ (by first | (simp; done) | (simp; omega) | omega) _ | refine Below.alloc ?_ (by first | (simp; done) | (simp; omega) | omega) _)⟩
      · have HRB : Hid (R = false) := Lib.hid (by rw [← hR]; exact canR_false (fun h => t2 (by have := h.2.2.1; simp only at this; omega)))
        subst t0
        subst t1
        have e2 : decide (0 ≤ df) = false := decide_eq_false t2
        clear hR t2
        go_enter Tryd.func102, Tryd.ntmps102
        go_wp2_with fail
        obtain ⟨W1, e1⟩ : ∃ V, w.alloc (.cells #[.slice (some ⟨b, 0, none⟩) m cap, .slice (some ⟨b2, 0, none⟩) n cap2, .int .i64 days] 84) = V := ⟨_, rfl⟩
        have s1 : W1.heap.size = w.heap.size + 1 := by rw [← e1]; simp
        have z0 : W1.cell? ⟨w.heap.size, 0, none⟩ = some (.slice (some ⟨b, 0, none⟩) m cap) := by rw [← e1]; simp
        have z1 : W1.cell? ⟨w.heap.size, 1, none⟩ = some (.slice (some ⟨b2, 0, none⟩) n cap2) := by rw [← e1]; simp
        have z2 : W1.cell? ⟨w.heap.size, 2, none⟩ = some (.int .i64 days) := by rw [← e1]; simp
        have hal : Below w.heap.size w W1 := by rw [← e1]; exact (Below.refl _ _).alloc (Nat.le_refl _) _
        have c0 := (hal.cell (p := ⟨b, j * 5, none⟩) hb).trans HCC.out.1
        have c1 := (hal.cell (p := ⟨b, j * 5 + 1, none⟩) hb).trans HCC.out.2.1
        have c2 := (hal.cell (p := ⟨b, j * 5 + 2, none⟩) hb).trans HCC.out.2.2.1
        have c3 := (hal.cell (p := ⟨b, j * 5 + 3, none⟩) hb).trans HCC.out.2.2.2.1
        have c4 := (hal.cell (p := ⟨b, j * 5 + 4, none⟩) hb).trans HCC.out.2.2.2.2
        have d0 := (hal.cell (p := ⟨b2, i * 4, none⟩) hb2).trans HDD.out.1
        have d1 := (hal.cell (p := ⟨b2, i * 4 + 1, none⟩) hb2).trans HDD.out.2.1
        have d2 := (hal.cell (p := ⟨b2, i * 4 + 2, none⟩) hb2).trans HDD.out.2.2.1
        have d3 := (hal.cell (p := ⟨b2, i * 4 + 3, none⟩) hb2).trans HDD.out.2.2.2
        have xb : b < W1.heap.size := by omega
        have xb2 : b2 < W1.heap.size := by omega
        have xw : w.heap.size < W1.heap.size := by omega
        have xb1 : b ≤ W1.heap.size := by omega
        have xb2 : b ≠ W1.heap.size := by omega
        have xb3 : b ≠ W1.heap.size + 1 := by omega
        have xc1 : b2 ≤ W1.heap.size := by omega
        have xc2 : b2 ≠ W1.heap.size := by omega
        have xc3 : b2 ≠ W1.heap.size + 1 := by omega
        have xd1 : w.heap.size ≤ W1.heap.size := by omega
        have xd2 : w.heap.size ≠ W1.heap.size := by omega
        have xd3 : w.heap.size ≠ W1.heap.size + 1 := by omega
        have hxy : ∀ x y, Below W1.heap.size W1 ((W1.alloc x).alloc y) := fun x y => ((Below.refl _ _).alloc (Nat.le_refl _) _).alloc (by simp) _
        have yc0 := fun x y => ((hxy x y).cell (p := ⟨b, j * 5, none⟩) (by simp only; omega)).trans c0
        have yc1 := fun x y => ((hxy x y).cell (p := ⟨b, j * 5 + 1, none⟩) (by simp only; omega)).trans c1
        have yc2 := fun x y => ((hxy x y).cell (p := ⟨b, j * 5 + 2, none⟩) (by simp only; omega)).trans c2
        have yc3 := fun x y => ((hxy x y).cell (p := ⟨b, j * 5 + 3, none⟩) (by simp only; omega)).trans c3
        have yc4 := fun x y => ((hxy x y).cell (p := ⟨b, j * 5 + 4, none⟩) (by simp only; omega)).trans c4
        have yd0 := fun x y => ((hxy x y).cell (p := ⟨b2, i * 4, none⟩) (by simp only; omega)).trans d0
        have yd1 := fun x y => ((hxy x y).cell (p := ⟨b2, i * 4 + 1, none⟩) (by simp only; omega)).trans d1
        have yd2 := fun x y => ((hxy x y).cell (p := ⟨b2, i * 4 + 2, none⟩) (by simp only; omega)).trans d2
        have yd3 := fun x y => ((hxy x y).cell (p := ⟨b2, i * 4 + 3, none⟩) (by simp only; omega)).trans d3
        have yz0 := fun x y => ((hxy x y).cell (p := ⟨w.heap.size, 0, none⟩) (by simp only; omega)).trans z0
        have yz1 := fun x y => ((hxy x y).cell (p := ⟨w.heap.size, 1, none⟩) (by simp only; omega)).trans z1
        have yz2 := fun x y => ((hxy x y).cell (p := ⟨w.heap.size, 2, none⟩) (by simp only; omega)).trans z2
        clear hxy
        have HAL := Lib.hid hal
        rw [e1]
        clear e1 hal
        go_wp2_with fail
        go_region
        all_goals
          go_wp2_with fail
          go_ret
          exact ⟨(ret_boolC HRB.out).symm, by repeat (first | exact HAL.out | refine Below.drew ?_ | refine Below.setCell ?_ (by first | (simp; done) | (simp; omega) | omega) _ | refine Below.alloc ?_ (by first | (simp; done) | (simp; omega) | omega) _)⟩
    · have HRB : Hid (R = false) := Lib.hid (by rw [← hR]; exact canR_false (fun h => t1 h.2.1.symm))
      have e1' : (r1 == o1) = false := by simpa using t1
      subst t0
      clear hR t1
      go_enter Tryd.func102, Tryd.ntmps102
      go_wp2_with fail
      obtain ⟨W1, e1⟩ : ∃ V, w.alloc (.cells #[.slice (some ⟨b, 0, none⟩) m cap, .slice (some ⟨b2, 0, none⟩) n cap2, .int .i64 days] 84) = V := ⟨_, rfl⟩
      have s1 : W1.heap.size = w.heap.size + 1 := by rw [← e1]; simp
      have z0 : W1.cell? ⟨w.heap.size, 0, none⟩ = some (.slice (some ⟨b, 0, none⟩) m cap) := by rw [← e1]; simp
      have z1 : W1.cell? ⟨w.heap.size, 1, none⟩ = some (.slice (some ⟨b2, 0, none⟩) n cap2) := by rw [← e1]; simp
      have z2 : W1.cell? ⟨w.heap.size, 2, none⟩ = some (.int .i64 days) := by rw [← e1]; simp
      have hal : Below w.heap.size w W1 := by rw [← e1]; exact (Below.refl _ _).alloc (Nat.le_refl _) _
      have c0 := (hal.cell (p := ⟨b, j * 5, none⟩) hb).trans HCC.out.1
      have c1 := (hal.cell (p := ⟨b, j * 5 + 1, none⟩) hb).trans HCC.out.2.1
      have c2 := (hal.cell (p := ⟨b, j * 5 + 2, none⟩) hb).trans HCC.out.2.2.1
      have c3 := (hal.cell (p := ⟨b, j * 5 + 3, none⟩) hb).trans HCC.out.2.2.2.1
      have c4 := (hal.cell (p := ⟨b, j * 5 + 4, none⟩) hb).trans HCC.out.2.2.2.2
      have d0 := (hal.cell (p := ⟨b2, i * 4, none⟩) hb2).trans HDD.out.1
      have d1 := (hal.cell (p := ⟨b2, i * 4 + 1, none⟩) hb2).trans HDD.out.2.1
      have d2 := (hal.cell (p := ⟨b2, i * 4 + 2, none⟩) hb2).trans HDD.out.2.2.1
      have d3 := (hal.cell (p := ⟨b2, i * 4 + 3, none⟩) hb2).trans HDD.out.2.2.2
      have xb : b < W1.heap.size := by omega
      have xb2 : b2 < W1.heap.size := by omega
      have xw : w.heap.size < W1.heap.size := by omega
      have xb1 : b ≤ W1.heap.size := by omega
      have xb2 : b ≠ W1.heap.size := by omega
      have xb3 : b ≠ W1.heap.size + 1 := by omega
      have xc1 : b2 ≤ W1.heap.size := by omega
      have xc2 : b2 ≠ W1.heap.size := by omega
      have xc3 : b2 ≠ W1.heap.size + 1 := by omega
      have xd1 : w.heap.size ≤ W1.heap.size := by omega
      have xd2 : w.heap.size ≠ W1.heap.size := by omega
      have xd3 : w.heap.size ≠ W1.heap.size + 1 := by omega
      have hxy : ∀ x y, Below W1.heap.size W1 ((W1.alloc x).alloc y) := fun x y => ((Below.refl _ _).alloc (Nat.le_refl _) _).alloc (by simp) _
      have yc0 := fun x y => ((hxy x y).cell (p := ⟨b, j * 5, none⟩) (by simp only; omega)).trans c0
      have yc1 := fun x y => ((hxy x y).cell (p := ⟨b, j * 5 + 1, none⟩) (by simp only; omega)).trans c1
      have yc2 := fun x y => ((hxy x y).cell (p := ⟨b, j * 5 + 2, none⟩) (by simp only; omega)).trans c2
      have yc3 := fun x y => ((hxy x y).cell (p := ⟨b, j * 5 + 3, none⟩) (by simp only; omega)).trans c3
      have yc4 := fun x y => ((hxy x y).cell (p := ⟨b, j * 5 + 4, none⟩) (by simp only; omega)).trans c4
      have yd0 := fun x y => ((hxy x y).cell (p := ⟨b2, i * 4, none⟩) (by simp only; omega)).trans d0
      have yd1 := fun x y => ((hxy x y).cell (p := ⟨b2, i * 4 + 1, none⟩) (by simp only; omega)).trans d1
      have yd2 := fun x y => ((hxy x y).cell (p := ⟨b2, i * 4 + 2, none⟩) (by simp only; omega)).trans d2
      have yd3 := fun x y => ((hxy x y).cell (p := ⟨b2, i * 4 + 3, none⟩) (by simp only; omega)).trans d3
      have yz0 := fun x y => ((hxy x y).cell (p := ⟨w.heap.size, 0, none⟩) (by simp only; omega)).trans z0
      have yz1 := fun x y => ((hxy x y).cell (p := ⟨w.heap.size, 1, none⟩) (by simp only; omega)).trans z1
      have yz2 := fun x y => ((hxy x y).cell (p := ⟨w.heap.size, 2, none⟩) (by simp only; omega)).trans z2
      clear hxy
      have HAL := Lib.hid hal
      rw [e1]
      clear e1 hal
      go_wp2_with fail
      go_region
      all_goals
        go_wp2_with fail
        go_ret
        exact ⟨(ret_boolC HRB.out).symm, by repeat (first | exact HAL.out | refine Below.drew ?_ | refine Below.setCell ?_ (by first | (simp; done) | (simp; omega) | omega) _ | refine Below.alloc ?_ (by first | (simp; done) | (simp; omega) | omega) _)⟩
  · have HRB : Hid (R = false) := Lib.hid (by rw [← hR]; exact canR_false (fun h => t0 h.1.symm))
    have e0' : (r0 == o0) = false := by simpa using t0
    clear hR t0
    go_enter Tryd.func102, Tryd.ntmps102
    go_wp2_with fail
    obtain ⟨W1, e1⟩ : ∃ V, w.alloc (.cells #[.slice (some ⟨b, 0, none⟩) m cap, .slice (some ⟨b2, 0, none⟩) n cap2, .int .i64 days] 84) = V := ⟨_, rfl⟩
    have s1 : W1.heap.size = w.heap.size + 1 := by rw [← e1]; simp
    have z0 : W1.cell? ⟨w.heap.size, 0, none⟩ = some (.slice (some ⟨b, 0, none⟩) m cap) := by rw [← e1]; simp
    have z1 : W1.cell? ⟨w.heap.size, 1, none⟩ = some (.slice (some ⟨b2, 0, none⟩) n cap2) := by rw [← e1]; simp
    have z2 : W1.cell? ⟨w.heap.size, 2, none⟩ = some (.int .i64 days) := by rw [← e1]; simp
    have hal : Below w.heap.size w W1 := by rw [← e1]; exact (Below.refl _ _).alloc (Nat.le_refl _) _
    have c0 := (hal.cell (p := ⟨b, j * 5, none⟩) hb).trans HCC.out.1
    have c1 := (hal.cell (p := ⟨b, j * 5 + 1, none⟩) hb).trans HCC.out.2.1
    have c2 := (hal.cell (p := ⟨b, j * 5 + 2, none⟩) hb).trans HCC.out.2.2.1
    have c3 := (hal.cell (p := ⟨b, j * 5 + 3, none⟩) hb).trans HCC.out.2.2.2.1
    have c4 := (hal.cell (p := ⟨b, j * 5 + 4, none⟩) hb).trans HCC.out.2.2.2.2
    have d0 := (hal.cell (p := ⟨b2, i * 4, none⟩) hb2).trans HDD.out.1
    have d1 := (hal.cell (p := ⟨b2, i * 4 + 1, none⟩) hb2).trans HDD.out.2.1
    have d2 := (hal.cell (p := ⟨b2, i * 4 + 2, none⟩) hb2).trans HDD.out.2.2.1
    have d3 := (hal.cell (p := ⟨b2, i * 4 + 3, none⟩) hb2).trans HDD.out.2.2.2
    have xb : b < W1.heap.size := by omega
    have xb2 : b2 < W1.heap.size := by omega
    have xw : w.heap.size < W1.heap.size := by omega
    have xb1 : b ≤ W1.heap.size := by omega
    have xb2 : b ≠ W1.heap.size := by omega
    have xb3 : b ≠ W1.heap.size + 1 := by omega
    have xc1 : b2 ≤ W1.heap.size := by omega
    have xc2 : b2 ≠ W1.heap.size := by omega
    have xc3 : b2 ≠ W1.heap.size + 1 := by omega
    have xd1 : w.heap.size ≤ W1.heap.size := by omega
    have xd2 : w.heap.size ≠ W1.heap.size := by omega
    have xd3 : w.heap.size ≠ W1.heap.size + 1 := by omega
    have hxy : ∀ x y, Below W1.heap.size W1 ((W1.alloc x).alloc y) := fun x y => ((Below.refl _ _).alloc (Nat.le_refl _) _).alloc (by simp) _
    have yc0 := fun x y => ((hxy x y).cell (p := ⟨b, j * 5, none⟩) (by simp only; omega)).trans c0
    have yc1 := fun x y => ((hxy x y).cell (p := ⟨b, j * 5 + 1, none⟩) (by simp only; omega)).trans c1
    have yc2 := fun x y => ((hxy x y).cell (p := ⟨b, j * 5 + 2, none⟩) (by simp only; omega)).trans c2
    have yc3 := fun x y => ((hxy x y).cell (p := ⟨b, j * 5 + 3, none⟩) (by simp only; omega)).trans c3
    have yc4 := fun x y => ((hxy x y).cell (p := ⟨b, j * 5 + 4, none⟩) (by simp only; omega)).trans c4
    have yd0 := fun x y => ((hxy x y).cell (p := ⟨b2, i * 4, none⟩) (by simp only; omega)).trans d0
    have yd1 := fun x y => ((hxy x y).cell (p := ⟨b2, i * 4 + 1, none⟩) (by simp only; omega)).trans d1
    have yd2 := fun x y => ((hxy x y).cell (p := ⟨b2, i * 4 + 2, none⟩) (by simp only; omega)).trans d2
    have yd3 := fun x y => ((hxy x y).cell (p := ⟨b2, i * 4 + 3, none⟩) (by simp only; omega)).trans d3
    have yz0 := fun x y => ((hxy x y).cell (p := ⟨w.heap.size, 0, none⟩) (by simp only; omega)).trans z0
    have yz1 := fun x y => ((hxy x y).cell (p := ⟨w.heap.size, 1, none⟩) (by simp only; omega)).trans z1
    have yz2 := fun x y => ((hxy x y).cell (p := ⟨w.heap.size, 2, none⟩) (by simp only; omega)).trans z2
    clear hxy
    have HAL := Lib.hid hal
    rw [e1]
    clear e1 hal
    go_wp2_with fail
    go_region
    all_goals
      go_wp2_with fail
      go_ret
      exact ⟨(ret_boolC HRB.out).symm, by repeat (first | exact HAL.out | refine Below.drew ?_ | refine Below.setCell ?_ (by first | (simp; done) | (simp; omega) | omega) _ | refine Below.alloc ?_ (by first | (simp; done) | (simp; omega) | omega) _)⟩
end Go.Proofs.YtgimpmdiilmkoaaDoor
