/-
  The walk of FnExactPriceBound: program and model answer the same at every argument, and neither writes into its arguments.
-/
import Derived.Test.YtkhemijanhcibaaDoorBoundS
import Derived.Test.YtkhemijanhcibaaDoorBoundI
import Derived.Test.YtkhemijanhcibaaDoorTabK
namespace Go.Proofs.YtkhemijanhcibaaDoor.fnExactPriceBound
open Go Go.RowKit
set_option linter.unusedVariables false

set_option maxHeartbeats 1000000 in
set_option maxRecDepth 100000 in
theorem walk (v : Value) (S : List Int) (R : List (List Int)) (n1 : Int) (r2 : Option Addr) (len2 cap2 : Nat) (z2 : List Int) (w : World) (a0 a1 a2 a3 : Addr) (h : IsTab w v S R) (wn1 : (Lit.int .i64 n1).wf = true) (hr2 : IsRow .i64 w r2 len2 cap2 z2) (E : Errs4 w a0 a1 a2 a3) :
    Calls Tryd.prog 10 #[v, .int .i64 n1, .slice r2 len2 cap2] w fun e w' => e = .returned (.bool true) ∧ Below w.heap.size w w' := by
  have HE := Lib.hid E
  clear E
  have Wn1 := Lib.hid wn1
  clear wn1
  have HT0 := Lib.hid h
  obtain ⟨a, len, cap, z, b, m, c2, rfl, q1, q2, q3⟩ := h.ex
  clear q1 q2 q3 h
  have HR2 := Lib.hid hr2
  have hok2 := hr2.len_ok
  obtain ⟨ws2, hws2⟩ : ∃ ws, z2.take len2 = ws := ⟨_, rfl⟩
  have hwl2 : ws2.length = len2 := by rw [← hws2]; exact hr2.len_le
  have HL2 := Lib.hid hws2
  have HWL2 := Lib.hid hwl2
  clear hr2 hws2 hwl2
  by_cases hle2 : len2 ≤ 1048576
  · have HB2 : Hid (ws2.length ≤ 1048576) := Lib.hid (by have := HWL2.out; omega)
    by_cases hs : 0 ≤ szT 1048576 S R
    · have K := Lib.hid (HT0.out.ok (by omega) hs)
      have t0 : decide (szT 1048576 S R < 0) = false := by simp; omega
      clear hs
      go_enter Tryd.func10, Tryd.ntmps10
      go_wp2_with fail
      refine (szT_any _ S R 1048576 (by omega) (by omega) _ (HT0.out.below (allocB _ _))).mono ?_
      rintro e y0 ⟨rfl, b1⟩
      have q := (Blk2.new (w := w) rfl _ _ _).below b1
      have g0 := q.at0
      have g1 := q.at1
      have C := Lib.hid (blink (allocB w _) b1)
      clear q b1
      go_wp2_with fail
      refine (toT_ok _ S R _ (HT0.out.below C.out) K.out).mono ?_
      rintro e y1 ⟨u, rfl, o1, b1⟩
      have OS := Lib.hid o1.reads
      have C := Lib.hid (blink C.out b1)
      have g0 := cbelow b1 g0
      have g1 := cbelow b1 g1
      clear b1 o1
      go_wp2_with fail
      refine (toI_as r2 len2 cap2 z2 ws2 HL2 _ (HR2.out.below C.out) hle2).mono ?_
      rintro e y2 ⟨rfl, o1, b1⟩
      have OS2 := Lib.hid o1.reads
      have C := Lib.hid (blink C.out b1)
      have OS := Lib.hid (OS.out.below b1)
      have g0 := cbelow b1 g0
      have g1 := cbelow b1 g1
      clear b1 o1
      go_wp2_with fail
      refine (sBound_ok _ _ S R n1 ws2 _ OS.out OS2.out K.out HB2.out ).mono ?_
      rintro e y3 ⟨rfl, b1⟩
      have C := Lib.hid (blink C.out b1)
      have g0 := cbelow b1 g0
      have g1 := cbelow b1 g1
      clear b1 OS OS2
      go_wp2_with fail
      refine (toT_ok _ S R _ (HT0.out.below C.out) K.out).mono ?_
      rintro e y4 ⟨u, rfl, o1, b1⟩
      have OX := Lib.hid o1.reads
      have C := Lib.hid (blink C.out b1)
      have g0 := cbelow b1 g0
      have g1 := cbelow b1 g1
      have CPX := Lib.hid o1.caps
      obtain ⟨x1, x2, rfl, ⟨ax, cx, rfl, p1⟩, ⟨ay, cy, rfl, p2⟩⟩ := o1.reads
      clear b1 o1 p1 p2
      have hlt : w.heap.size < y4.heap.size := World.block_lt_of_cell? _ _ g0
      have qx := Blk2.new (w := y4) rfl 29 (.slice ax S.length cx) (.slice ay R.length cy)
      go_wp2_with fail
      refine (toI_as r2 len2 cap2 z2 ws2 HL2 _ (HR2.out.below (C.out.alloc (Nat.le_of_lt hlt) _)) hle2).mono ?_
      rintro e y5 ⟨rfl, o1, b1⟩
      simp only [World.size_alloc] at o1
      have OX2 := Lib.hid o1.reads
      have C := Lib.hid (blink (C.out.alloc (Nat.le_of_lt hlt) _) b1)
      have OX := Lib.hid ((OX.out.below (allocB _ _)).below b1)
      have CPX := Lib.hid ((CPX.out.below (allocB _ _)).below b1)
      have g0 := cbelow b1 (cbelow (allocB _ _) g0)
      have g1 := cbelow b1 (cbelow (allocB _ _) g1)
      have qx := qx.below b1
      obtain ⟨X, hX⟩ : ∃ X, y4.heap.size = X := ⟨_, rfl⟩
      rw [hX] at qx ⊢
      have x0 := qx.at0
      have x1 := qx.at1
      clear hX qx
      clear b1 o1
      go_wp2_with fail
      refine (iBound_ok _ _ S R n1 ws2 _ OX.out OX2.out K.out HB2.out  a0 a1 a2 a3 (HE.out.below C.out) CPX.out).mono ?_
      rintro e y6 ⟨rfl, b1⟩
      have C := Lib.hid (blink C.out b1)
      have OX := Lib.hid (OX.out.below b1)
      have CPX := Lib.hid (CPX.out.below b1)
      have OX2 := Lib.hid (OX2.out.below b1)
      have g0 := cbelow b1 g0
      have g1 := cbelow b1 g1
      have x0 := cbelow b1 x0
      have x1 := cbelow b1 x1
      clear b1
      go_wp2_with fail
      have SD : y6.drew.cell? ⟨w.heap.size, 0, none⟩ = some (.slice a len cap) ∧ y6.drew.cell? ⟨w.heap.size, 1, none⟩ = some (.slice b m c2) ∧ y6.drew.cell? ⟨X, 0, none⟩ = some (.slice ax S.length cx) ∧ y6.drew.cell? ⟨X, 1, none⟩ = some (.slice ay R.length cy) ∧ Hid (Below y6.heap.size y6 y6.drew) := ⟨g0, g1, x0, x1, Lib.hid (Below.refl _ _).drew⟩
      go_region_held3 (fun v => v.cell? ⟨w.heap.size, 0, none⟩ = some (.slice a len cap) ∧ v.cell? ⟨w.heap.size, 1, none⟩ = some (.slice b m c2) ∧ v.cell? ⟨X, 0, none⟩ = some (.slice ax S.length cx) ∧ v.cell? ⟨X, 1, none⟩ = some (.slice ay R.length cy) ∧ Hid (Below y6.heap.size y6 v)) (first | exact SD | exact keepT2 (by assumption) (by assumption) | go_keep) (first | (go_at_call 13; refine (toT_ok _ S R _ (HT0.out.below (blink C.out (kb2 (by assumption)))) K.out).mono ?_; rintro e z ⟨u3, rfl, o1, b1⟩; have O3 := Lib.hid o1.reads; clear o1) | (go_at_call 15; refine (eqT_ok _ _ S R _ (OX.out.below (kb2 (by assumption))) O3.out K.out).mono ?_; rintro e z ⟨rfl, b1⟩))
      have hS : z.cell? ⟨w.heap.size, 0, none⟩ = some (.slice a len cap) ∧ z.cell? ⟨w.heap.size, 1, none⟩ = some (.slice b m c2) ∧ z.cell? ⟨X, 0, none⟩ = some (.slice ax S.length cx) ∧ z.cell? ⟨X, 1, none⟩ = some (.slice ay R.length cy) ∧ Hid (Below y6.heap.size y6 z) := by assumption
      have OX2 := Lib.hid (OX2.out.below (kb2 hS))
      have C := Lib.hid (blink C.out (kb2 hS))
      clear hS SD
      obtain ⟨yz, ez⟩ : ∃ yz : World, yz = z := ⟨_, rfl⟩
      rw [← ez] at C OX2 ⊢
      clear ez
      go_wp2_with fail
      refine (toI_as r2 len2 cap2 z2 ws2 HL2 _ (HR2.out.below C.out) hle2).mono ?_
      rintro e y7 ⟨rfl, o1, b1⟩
      have OY := Lib.hid o1.reads
      have C := Lib.hid (blink C.out b1)
      have OX2 := Lib.hid (OX2.out.below b1)
      clear b1 o1
      go_wp2_with fail
      refine (eqI_any _ _ ws2 ws2 _ OX2.out OY.out HB2.out HB2.out).mono ?_
      rintro e y8 ⟨rfl, b1⟩
      rw [eqB_true rfl]
      have C := Lib.hid (blink C.out b1)
      clear b1 OY
      go_wp2_with fail
      go_ret
      exact ⟨rfl, C.out⟩
    · have t0 : decide (szT 1048576 S R < 0) = true := by simp; omega
      go_enter Tryd.func10, Tryd.ntmps10
      go_wp2_with fail
      refine (szT_any _ S R 1048576 (by omega) (by omega) _ (HT0.out.below (allocB _ _))).mono ?_
      rintro e z1 ⟨rfl, b1⟩
      go_wp2_with fail
      go_ret
      exact ⟨rfl, blink (allocB w _) b1⟩
  · have t0 : decide ((1048576 : Int) < (len2 : Int)) = true := by simp; omega
    go_enter Tryd.func10, Tryd.ntmps10
    go_wp2_with fail
    go_ret
    exact ⟨rfl, allocB _ _⟩
end Go.Proofs.YtkhemijanhcibaaDoor.fnExactPriceBound
