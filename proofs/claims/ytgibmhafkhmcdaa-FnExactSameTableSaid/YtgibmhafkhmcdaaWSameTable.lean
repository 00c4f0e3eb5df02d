/-
  The walk of FnExactSameTable: program and model answer the same at any two tables, and neither writes into its arguments.
-/
import Derived.Test.YtgibmhafkhmcdaaSameT
namespace Go.Proofs.Ytgibmhafkhmcdaa.fnExactSameTable
open Go Go.RowKit
set_option linter.unusedVariables false

set_option maxHeartbeats 8000000 in
set_option maxRecDepth 100000 in
theorem walk (v : Value) (S : List Int) (R : List (List Int)) (u : Value) (S' : List Int) (R' : List (List Int)) (w : World) (h : IsTab w v S R) (h' : IsTab w u S' R') :
    Calls Try.prog 4 #[v, u] w fun e w' => e = .returned (.bool true) ∧ Below w.heap.size w w' := by
  have HT := Lib.hid h
  have HT' := Lib.hid h'
  obtain ⟨a, len, cap, z, b, m, c2, rfl, q1, q2, q3⟩ := h.ex
  obtain ⟨a', len', cap', z', b', m', c2', rfl, q1', q2', q3'⟩ := h'.ex
  clear q1 q2 q3 q1' q2' q3' h h'
  have hb0 := szT_bound (S := S) (R := R) (l := 1048576) (by omega)
  by_cases hs : 0 ≤ szT 1048576 S R
  · have K := Lib.hid (HT.out.ok (by omega) hs)
    obtain ⟨l, hl⟩ : ∃ l, szT 1048576 S R = l := ⟨_, rfl⟩
    rw [hl] at hs hb0
    have HL := Lib.hid hl
    have t0 : decide (l < 0) = false := by simp; omega
    have W0 : Hid (IsTab ((w.alloc (.cells #[.slice a len cap, .slice b m c2] 25)).alloc (.cells #[.slice a' len' cap', .slice b' m' c2'] 25)) (.agg #[.slice a len cap, .slice b m c2]) S R) := Lib.hid (HT.out.below (by repeat (first | exact Below.refl _ _ | refine Below.setCell ?_ (by first | (simp; done) | (simp; omega)) _ | refine Below.alloc ?_ (by first | (simp; done) | (simp; omega) | omega) _)))
    clear hl
    by_cases hs2 : 0 ≤ szT l S' R'
    · have K' := Lib.hid (HT'.out.ok hb0 hs2)
      have t1 : decide (szT l S' R' < 0) = false := by simp; omega
      clear hs2
      go_enter Try.func4, Try.ntmps4
      go_wp2_with fail
      refine (szT_any _ S R 1048576 (by omega) (by omega) _ (HT.out.below (by repeat (first | exact Below.refl _ _ | refine Below.setCell ?_ (by first | (simp; done) | (simp; omega)) _ | refine Below.alloc ?_ (by first | (simp; done) | (simp; omega) | omega) _)))).mono ?_
      rintro e z1 ⟨rfl, b1⟩
      rw [HL.out]
      have q0 := ((Blk2.new (n := w.heap.size) (by simp) _ _ _).alloc _).below b1
      have q1 := ((Blk2.new (n := w.heap.size + 1) (by simp) _ _ _)).below b1
      have c := Below.trans (by repeat (first | exact Below.refl _ _ | refine Below.setCell ?_ (by first | (simp; done) | (simp; omega)) _ | refine Below.alloc ?_ (by first | (simp; done) | (simp; omega) | omega) _) : Below w.heap.size w _) (b1.mono (by simp; omega))
      have g0 := q0.at0
      have g1 := q0.at1
      have g2 := q1.at0
      have g3 := q1.at1
      have C := Lib.hid c
      have Q0 := Lib.hid q0
      have Q1 := Lib.hid q1
      clear q0 q1 c b1
      go_wp2_with fail
      refine (szT_any _ S' R' l hs hb0 _ (HT'.out.below C.out)).mono ?_
      rintro e z2 ⟨rfl, b1⟩
      have C2 := Lib.hid (blink C.out b1)
      have q0 := Q0.out.below b1
      have q1 := Q1.out.below b1
      have g0 := q0.at0
      have g1 := q0.at1
      have g2 := q1.at0
      have g3 := q1.at1
      clear Q0 Q1 q0 q1 b1
      go_wp2_with fail
      have SD : z2.drew.cell? ⟨w.heap.size, 0, none⟩ = some (.slice a len cap) ∧ z2.drew.cell? ⟨w.heap.size, 1, none⟩ = some (.slice b m c2) ∧ z2.drew.cell? ⟨w.heap.size + 1, 0, none⟩ = some (.slice a' len' cap') ∧ z2.drew.cell? ⟨w.heap.size + 1, 1, none⟩ = some (.slice b' m' c2') ∧ Hid (Below z2.heap.size z2 z2.drew) := ⟨g0, g1, g2, g3, Lib.hid (Below.refl _ _).drew⟩
      go_region_held3 (fun v => v.cell? ⟨w.heap.size, 0, none⟩ = some (.slice a len cap) ∧ v.cell? ⟨w.heap.size, 1, none⟩ = some (.slice b m c2) ∧ v.cell? ⟨w.heap.size + 1, 0, none⟩ = some (.slice a' len' cap') ∧ v.cell? ⟨w.heap.size + 1, 1, none⟩ = some (.slice b' m' c2') ∧ Hid (Below z2.heap.size z2 v)) (first | exact SD | exact keepT2 (by assumption) (by assumption) | go_keep) (first | (go_at_call 9; (with_reducible refine (toT_ok (.agg #[.slice a len cap, .slice b m c2]) S R _ (HT.out.below (blink C2.out (kb2 (by assumption)))) K.out).mono ?_); rintro e z ⟨u1, rfl, o1, b1⟩; have O1 := Lib.hid o1.reads; clear o1) | (go_at_call 9; (with_reducible refine (toT_ok (.agg #[.slice a' len' cap', .slice b' m' c2']) S' R' _ (HT'.out.below (blink C2.out (kb2 (by assumption)))) K'.out).mono ?_); rintro e z ⟨u2, rfl, o2, b2⟩; have O2 := Lib.hid o2.reads; have O1 := Lib.hid (O1.out.below b2); clear o2) | (go_at_call 12; refine (ssameT_ok _ _ S R S' R' _ O1.out O2.out K.out K'.out).mono ?_; rintro e z ⟨rfl, b3⟩))
      have hS : z.cell? ⟨w.heap.size, 0, none⟩ = some (.slice a len cap) ∧ z.cell? ⟨w.heap.size, 1, none⟩ = some (.slice b m c2) ∧ z.cell? ⟨w.heap.size + 1, 0, none⟩ = some (.slice a' len' cap') ∧ z.cell? ⟨w.heap.size + 1, 1, none⟩ = some (.slice b' m' c2') ∧ Hid (Below z2.heap.size z2 z) := by assumption
      obtain ⟨g0, g1, g2, g3, hC⟩ := hS
      have C3 := Lib.hid (blink C2.out hC.out)
      have l1 : w.heap.size + 1 < z.heap.size := World.block_lt_of_cell? z _ g2
      clear hC SD
      obtain ⟨z3, ez⟩ : ∃ z1 : World, z1 = z := ⟨_, rfl⟩
      rw [← ez] at g0 g1 g2 g3 C3 l1 ⊢
      clear ez
      go_wp2_with fail
      refine (toT_ok _ S R _ (HT.out.below C3.out) K.out).mono ?_
      rintro e z4 ⟨u3, rfl, o1, b1⟩
      have O3 := Lib.hid o1.reads
      obtain ⟨x1, x2, rfl, ⟨ax, cx, rfl, p1⟩, ⟨ay, cy, rfl, p2⟩⟩ := o1.reads
      have C4 := Lib.hid (blink C3.out b1)
      have g0 : z4.cell? ⟨w.heap.size, 0, none⟩ = some (.slice a len cap) := by rw [b1.cell (World.block_lt_of_cell? _ _ g0)]; exact g0
      have g1 : z4.cell? ⟨w.heap.size, 1, none⟩ = some (.slice b m c2) := by rw [b1.cell (World.block_lt_of_cell? _ _ g1)]; exact g1
      have g2 : z4.cell? ⟨w.heap.size + 1, 0, none⟩ = some (.slice a' len' cap') := by rw [b1.cell (World.block_lt_of_cell? _ _ g2)]; exact g2
      have g3 : z4.cell? ⟨w.heap.size + 1, 1, none⟩ = some (.slice b' m' c2') := by rw [b1.cell (World.block_lt_of_cell? _ _ g3)]; exact g3
      have l4 : w.heap.size + 1 < z4.heap.size := World.block_lt_of_cell? z4 _ g2
      clear b1 o1 p1 p2
      go_wp2_with fail
      have qx := Blk2.new (w := z4) rfl 28 (.slice ax S.length cx) (.slice ay R.length cy)
      refine (toT_ok _ S' R' _ (HT'.out.below (C4.out.alloc (by omega) _)) K'.out).mono ?_
      rintro e z5 ⟨u4, rfl, o1, b1⟩
      have O4 := Lib.hid o1.reads
      obtain ⟨x1, x2, rfl, ⟨bx, dx, rfl, p1⟩, ⟨by', dy, rfl, p2⟩⟩ := o1.reads
      have C5 := Lib.hid (blink (C4.out.alloc (by omega) _) b1)
      have g0 := cbelow b1 (cbelow (allocB _ _) g0)
      have g1 := cbelow b1 (cbelow (allocB _ _) g1)
      have g2 := cbelow b1 (cbelow (allocB _ _) g2)
      have g3 := cbelow b1 (cbelow (allocB _ _) g3)
      have O3 := Lib.hid ((O3.out.below (allocB _ _)).below b1)
      have qx := qx.below b1
      obtain ⟨X, hX⟩ : ∃ X, z4.heap.size = X := ⟨_, rfl⟩
      rw [hX] at qx ⊢
      have x0 := qx.at0
      have x1 := qx.at1
      have l5 : w.heap.size + 1 < z5.heap.size := World.block_lt_of_cell? z5 _ g2
      have l6 : X < z5.heap.size := qx.lt
      clear hX qx b1 o1 p1 p2
      go_wp2_with fail
      have qy := Blk2.new (w := z5) rfl 28 (.slice bx S'.length dx) (.slice by' R'.length dy)
      refine (isameT_ok _ _ S R S' R' _ (O3.out.below (allocB _ _)) (O4.out.below (allocB _ _)) K.out K'.out).mono ?_
      rintro e z6 ⟨rfl, b1⟩
      have C6 := Lib.hid (blink (C5.out.alloc (by omega) _) b1)
      have g0 := cbelow b1 (cbelow (allocB _ _) g0)
      have g1 := cbelow b1 (cbelow (allocB _ _) g1)
      have g2 := cbelow b1 (cbelow (allocB _ _) g2)
      have g3 := cbelow b1 (cbelow (allocB _ _) g3)
      have x0 := cbelow b1 (cbelow (allocB _ _) x0)
      have x1 := cbelow b1 (cbelow (allocB _ _) x1)
      have O3 := Lib.hid ((O3.out.below (allocB _ _)).below b1)
      have O4 := Lib.hid ((O4.out.below (allocB _ _)).below b1)
      have qy := qy.below b1
      obtain ⟨Y, hY⟩ : ∃ Y, z5.heap.size = Y := ⟨_, rfl⟩
      rw [hY] at qy ⊢
      have y0 := qy.at0
      have y1 := qy.at1
      clear hY qy b1
      go_wp2_with fail
      have SD : z6.drew.cell? ⟨w.heap.size, 0, none⟩ = some (.slice a len cap) ∧ z6.drew.cell? ⟨w.heap.size, 1, none⟩ = some (.slice b m c2) ∧ z6.drew.cell? ⟨w.heap.size + 1, 0, none⟩ = some (.slice a' len' cap') ∧ z6.drew.cell? ⟨w.heap.size + 1, 1, none⟩ = some (.slice b' m' c2') ∧ z6.drew.cell? ⟨X, 0, none⟩ = some (.slice ax S.length cx) ∧ z6.drew.cell? ⟨X, 1, none⟩ = some (.slice ay R.length cy) ∧ z6.drew.cell? ⟨Y, 0, none⟩ = some (.slice bx S'.length dx) ∧ z6.drew.cell? ⟨Y, 1, none⟩ = some (.slice by' R'.length dy) ∧ Hid (Below z6.heap.size z6 z6.drew) := ⟨g0, g1, g2, g3, x0, x1, y0, y1, Lib.hid (Below.refl _ _).drew⟩
      go_region_held3 (fun v => v.cell? ⟨w.heap.size, 0, none⟩ = some (.slice a len cap) ∧ v.cell? ⟨w.heap.size, 1, none⟩ = some (.slice b m c2) ∧ v.cell? ⟨w.heap.size + 1, 0, none⟩ = some (.slice a' len' cap') ∧ v.cell? ⟨w.heap.size + 1, 1, none⟩ = some (.slice b' m' c2') ∧ v.cell? ⟨X, 0, none⟩ = some (.slice ax S.length cx) ∧ v.cell? ⟨X, 1, none⟩ = some (.slice ay R.length cy) ∧ v.cell? ⟨Y, 0, none⟩ = some (.slice bx S'.length dx) ∧ v.cell? ⟨Y, 1, none⟩ = some (.slice by' R'.length dy) ∧ Hid (Below z6.heap.size z6 v)) (first | exact SD | exact keepT4 (by assumption) (by assumption) | go_keep) (first | (go_at_call 9; (with_reducible refine (toT_ok (.agg #[.slice a len cap, .slice b m c2]) S R _ (HT.out.below (blink C6.out (kb4 (by assumption)))) K.out).mono ?_); rintro e z ⟨u1, rfl, o1, b1⟩; have O1 := Lib.hid o1.reads; clear o1) | (go_at_call 11; refine (eqT_ok _ _ S R _ (O3.out.below (kb4 (by assumption))) O1.out K.out).mono ?_; rintro e z ⟨rfl, b3⟩))
      have hS : z.cell? ⟨w.heap.size, 0, none⟩ = some (.slice a len cap) ∧ z.cell? ⟨w.heap.size, 1, none⟩ = some (.slice b m c2) ∧ z.cell? ⟨w.heap.size + 1, 0, none⟩ = some (.slice a' len' cap') ∧ z.cell? ⟨w.heap.size + 1, 1, none⟩ = some (.slice b' m' c2') ∧ z.cell? ⟨X, 0, none⟩ = some (.slice ax S.length cx) ∧ z.cell? ⟨X, 1, none⟩ = some (.slice ay R.length cy) ∧ z.cell? ⟨Y, 0, none⟩ = some (.slice bx S'.length dx) ∧ z.cell? ⟨Y, 1, none⟩ = some (.slice by' R'.length dy) ∧ Hid (Below z6.heap.size z6 z) := by assumption
      obtain ⟨g0, g1, g2, g3, x0, x1, y0, y1, hC⟩ := hS
      have C7 := Lib.hid (blink C6.out hC.out)
      have O4 := Lib.hid (O4.out.below hC.out)
      clear hC SD
      obtain ⟨z7, ez⟩ : ∃ z1 : World, z1 = z := ⟨_, rfl⟩
      rw [← ez] at g0 g1 g2 g3 x0 x1 y0 y1 C7 O4 ⊢
      clear ez
      go_wp2_with fail
      have SD : z7.drew.cell? ⟨w.heap.size, 0, none⟩ = some (.slice a len cap) ∧ z7.drew.cell? ⟨w.heap.size, 1, none⟩ = some (.slice b m c2) ∧ z7.drew.cell? ⟨w.heap.size + 1, 0, none⟩ = some (.slice a' len' cap') ∧ z7.drew.cell? ⟨w.heap.size + 1, 1, none⟩ = some (.slice b' m' c2') ∧ z7.drew.cell? ⟨X, 0, none⟩ = some (.slice ax S.length cx) ∧ z7.drew.cell? ⟨X, 1, none⟩ = some (.slice ay R.length cy) ∧ z7.drew.cell? ⟨Y, 0, none⟩ = some (.slice bx S'.length dx) ∧ z7.drew.cell? ⟨Y, 1, none⟩ = some (.slice by' R'.length dy) ∧ Hid (Below z7.heap.size z7 z7.drew) := ⟨g0, g1, g2, g3, x0, x1, y0, y1, Lib.hid (Below.refl _ _).drew⟩
      go_region_held3 (fun v => v.cell? ⟨w.heap.size, 0, none⟩ = some (.slice a len cap) ∧ v.cell? ⟨w.heap.size, 1, none⟩ = some (.slice b m c2) ∧ v.cell? ⟨w.heap.size + 1, 0, none⟩ = some (.slice a' len' cap') ∧ v.cell? ⟨w.heap.size + 1, 1, none⟩ = some (.slice b' m' c2') ∧ v.cell? ⟨X, 0, none⟩ = some (.slice ax S.length cx) ∧ v.cell? ⟨X, 1, none⟩ = some (.slice ay R.length cy) ∧ v.cell? ⟨Y, 0, none⟩ = some (.slice bx S'.length dx) ∧ v.cell? ⟨Y, 1, none⟩ = some (.slice by' R'.length dy) ∧ Hid (Below z7.heap.size z7 v)) (first | exact SD | exact keepT4 (by assumption) (by assumption) | go_keep) (first | (go_at_call 9; (with_reducible refine (toT_ok (.agg #[.slice a' len' cap', .slice b' m' c2']) S' R' _ (HT'.out.below (blink C7.out (kb4 (by assumption)))) K'.out).mono ?_); rintro e z ⟨u1, rfl, o1, b1⟩; have O1 := Lib.hid o1.reads; clear o1) | (go_at_call 11; refine (eqT_ok _ _ S' R' _ (O4.out.below (kb4 (by assumption))) O1.out K'.out).mono ?_; rintro e z ⟨rfl, b3⟩))
      have hS : z.cell? ⟨w.heap.size, 0, none⟩ = some (.slice a len cap) ∧ z.cell? ⟨w.heap.size, 1, none⟩ = some (.slice b m c2) ∧ z.cell? ⟨w.heap.size + 1, 0, none⟩ = some (.slice a' len' cap') ∧ z.cell? ⟨w.heap.size + 1, 1, none⟩ = some (.slice b' m' c2') ∧ z.cell? ⟨X, 0, none⟩ = some (.slice ax S.length cx) ∧ z.cell? ⟨X, 1, none⟩ = some (.slice ay R.length cy) ∧ z.cell? ⟨Y, 0, none⟩ = some (.slice bx S'.length dx) ∧ z.cell? ⟨Y, 1, none⟩ = some (.slice by' R'.length dy) ∧ Hid (Below z7.heap.size z7 z) := by assumption
      have C8 := Lib.hid (blink C7.out (kb4 hS))
      clear hS SD
      go_wp2_with fail
      go_ret
      exact ⟨rfl, C8.out⟩
    · have t1 : decide (szT l S' R' < 0) = true := by simp; omega
      go_enter Try.func4, Try.ntmps4
      go_wp2_with fail
      refine (szT_any _ S R 1048576 (by omega) (by omega) _ (HT.out.below (by repeat (first | exact Below.refl _ _ | refine Below.setCell ?_ (by first | (simp; done) | (simp; omega)) _ | refine Below.alloc ?_ (by first | (simp; done) | (simp; omega) | omega) _)))).mono ?_
      rintro e z1 ⟨rfl, b1⟩
      rw [HL.out]
      have q0 := ((Blk2.new (n := w.heap.size) (by simp) _ _ _).alloc _).below b1
      have q1 := ((Blk2.new (n := w.heap.size + 1) (by simp) _ _ _)).below b1
      have c := Below.trans (by repeat (first | exact Below.refl _ _ | refine Below.setCell ?_ (by first | (simp; done) | (simp; omega)) _ | refine Below.alloc ?_ (by first | (simp; done) | (simp; omega) | omega) _) : Below w.heap.size w _) (b1.mono (by simp; omega))
      have g0 := q0.at0
      have g1 := q0.at1
      have g2 := q1.at0
      have g3 := q1.at1
      have C := Lib.hid c
      clear q0 q1 c b1
      go_wp2_with fail
      refine (szT_any _ S' R' l hs hb0 _ (HT'.out.below C.out)).mono ?_
      rintro e z2 ⟨rfl, b1⟩
      have C2 := Lib.hid (blink C.out b1)
      clear b1
      go_wp2_with fail
      go_ret
      exact ⟨rfl, C2.out⟩
  · obtain ⟨l, hl⟩ : ∃ l, szT 1048576 S R = l := ⟨_, rfl⟩
    rw [hl] at hs
    have HL := Lib.hid hl
    have t0 : decide (l < 0) = true := by simp; omega
    clear hl
    go_enter Try.func4, Try.ntmps4
    go_wp2_with fail
    refine (szT_any _ S R 1048576 (by omega) (by omega) _ (HT.out.below (by repeat (first | exact Below.refl _ _ | refine Below.setCell ?_ (by first | (simp; done) | (simp; omega)) _ | refine Below.alloc ?_ (by first | (simp; done) | (simp; omega) | omega) _)))).mono ?_
    rintro e z1 ⟨rfl, b1⟩
    rw [HL.out]
    have c := Below.trans (by repeat (first | exact Below.refl _ _ | refine Below.setCell ?_ (by first | (simp; done) | (simp; omega)) _ | refine Below.alloc ?_ (by first | (simp; done) | (simp; omega) | omega) _) : Below w.heap.size w _) (b1.mono (by simp; omega))
    have C := Lib.hid c
    clear c b1
    go_wp2_with fail
    go_ret
    exact ⟨rfl, C.out⟩
end Go.Proofs.Ytgibmhafkhmcdaa.fnExactSameTable
