/-
  The walk of FnExactTableText: program and model answer the same at every argument, and neither writes into its arguments.
-/
import Derived.Test.YtlgimedadjpdiaaDoorTtS
import Derived.Test.YtlgimedadjpdiaaDoorTtI
import Derived.Test.YtlgimedadjpdiaaDoorTabK
namespace Go.Proofs.YtlgimedadjpdiaaDoor.fnExactTableText
open Go Go.RowKit
set_option linter.unusedVariables false

set_option maxHeartbeats 4000000 in
set_option maxRecDepth 100000 in
theorem walk (v : Value) (S : List Int) (R : List (List Int))  (w : World) (h : IsTab w v S R)  (E : PowTab w) :
    Calls Tryd.prog 7 #[v] w fun e w' => e = .returned (.bool true) ∧ Below w.heap.size w w' := by
  have HE := Lib.hid E
  clear E
  have HT0 := Lib.hid h
  obtain ⟨a, len, cap, z, b, m, c2, rfl, q1, q2, q3⟩ := h.ex
  clear q1 q2 q3 h
  by_cases hs : 0 ≤ szT 1048576 S R
  · have K := Lib.hid (HT0.out.ok (by omega) hs)
    have t0 : decide (szT 1048576 S R < 0) = false := by simp; omega
    clear hs
    go_enter Tryd.func7, Tryd.ntmps7
    go_wp2_with fail
    refine (szT_any _ S R 1048576 (by omega) (by omega) _ (HT0.out.below ((Below.refl _ _).alloc (Nat.le_refl _) _))).mono ?_
    rintro e z1 ⟨rfl, b1⟩
    have q := (Blk2.new (w := w) rfl _ _ _).below b1
    have c := ((Below.refl w.heap.size w).alloc (Nat.le_refl _) _).trans (b1.mono (by simp))
    have g0 := q.at0
    have g1 := q.at1
    have C := Lib.hid c
    have Q := Lib.hid q
    clear q c b1
    go_wp2_with fail
    refine (toT_ok _ S R _ (HT0.out.below C.out) K.out).mono ?_
    rintro e z2 ⟨u1, rfl, o1, b1⟩
    have O1 := Lib.hid o1.reads
    have C2 := Lib.hid (blink C.out b1)
    have q := Q.out.below b1
    have g0 := q.at0
    have g1 := q.at1
    have Q2 := Lib.hid q
    clear q b1 o1
    go_wp2_with fail
    refine (stab_any _ S R  _ O1.out K.out ).mono ?_
    rintro e z3 ⟨rfl, b1⟩
    have C3 := Lib.hid (blink C2.out b1)
    have q := Q2.out.below b1
    have g0 := q.at0
    have g1 := q.at1
    have Q3 := Lib.hid q
    clear q b1
    go_wp2_with fail
    refine (toT_ok _ S R _ (HT0.out.below C3.out) K.out).mono ?_
    rintro e z4 ⟨u2, rfl, o1, b1⟩
    have O2 := Lib.hid o1.reads
    obtain ⟨x1, x2, rfl, ⟨ax, cx, rfl, p1⟩, ⟨ay, cy, rfl, p2⟩⟩ := o1.reads
    have C4 := Lib.hid (blink C3.out b1)
    have q := Q3.out.below b1
    have g0 := q.at0
    have g1 := q.at1
    have Q4 := Lib.hid q
    have hlt : w.heap.size < z4.heap.size := q.lt
    clear q b1 o1 p1 p2
    go_wp2_with fail
    have qx := Blk2.new (w := z4) rfl 61 (.slice ax S.length cx) (.slice ay R.length cy)
    refine (itab_any _ S R  _ (O2.out.below ((Below.refl _ _).alloc (Nat.le_refl _) _)) K.out  (HE.out.below (C4.out.alloc (Nat.le_of_lt hlt) _))).mono ?_
    rintro e z5 ⟨rfl, b1⟩
    have C5 := Lib.hid (blink (C4.out.alloc (Nat.le_of_lt hlt) _) b1)
    have q := (Q4.out.alloc _).below b1
    have g0 := q.at0
    have g1 := q.at1
    have qx := qx.below b1
    have O5 := Lib.hid ((O2.out.below ((Below.refl _ _).alloc (Nat.le_refl _) _)).below b1)
    obtain ⟨X, hX⟩ : ∃ X, z4.heap.size = X := ⟨_, rfl⟩
    rw [hX] at qx ⊢
    have x0 := qx.at0
    have x1 := qx.at1
    clear hX q qx b1
    go_wp2_with fail
    have SD : z5.drew.cell? ⟨w.heap.size, 0, none⟩ = some (.slice a len cap) ∧ z5.drew.cell? ⟨w.heap.size, 1, none⟩ = some (.slice b m c2) ∧ z5.drew.cell? ⟨X, 0, none⟩ = some (.slice ax S.length cx) ∧ z5.drew.cell? ⟨X, 1, none⟩ = some (.slice ay R.length cy) ∧ Hid (Below z5.heap.size z5 z5.drew) := ⟨g0, g1, x0, x1, Lib.hid (Below.refl _ _).drew⟩
    go_region_held3 (fun v => v.cell? ⟨w.heap.size, 0, none⟩ = some (.slice a len cap) ∧ v.cell? ⟨w.heap.size, 1, none⟩ = some (.slice b m c2) ∧ v.cell? ⟨X, 0, none⟩ = some (.slice ax S.length cx) ∧ v.cell? ⟨X, 1, none⟩ = some (.slice ay R.length cy) ∧ Hid (Below z5.heap.size z5 v)) (first | exact SD | exact keepT2 (by assumption) (by assumption) | go_keep) (first | (go_at_call 33; refine (toT_ok _ S R _ (HT0.out.below (blink C5.out (kb2 (by assumption)))) K.out).mono ?_; rintro e z ⟨u3, rfl, o1, b1⟩; have O3 := Lib.hid o1.reads; clear o1) | (go_at_call 35; refine (eqT_ok _ _ S R _ (O5.out.below (kb2 (by assumption))) O3.out K.out).mono ?_; rintro e z ⟨rfl, b1⟩))
    have hS : z.cell? ⟨w.heap.size, 0, none⟩ = some (.slice a len cap) ∧ z.cell? ⟨w.heap.size, 1, none⟩ = some (.slice b m c2) ∧ z.cell? ⟨X, 0, none⟩ = some (.slice ax S.length cx) ∧ z.cell? ⟨X, 1, none⟩ = some (.slice ay R.length cy) ∧ Hid (Below z5.heap.size z5 z) := by assumption
    have C6 := Lib.hid (blink C5.out (kb2 hS))
    clear hS SD
    go_wp2_with fail
    go_ret
    exact ⟨rfl, C6.out⟩
  · have t0 : decide (szT 1048576 S R < 0) = true := by simp; omega
    go_enter Tryd.func7, Tryd.ntmps7
    go_wp2_with fail
    refine (szT_any _ S R 1048576 (by omega) (by omega) _ (HT0.out.below ((Below.refl _ _).alloc (Nat.le_refl _) _))).mono ?_
    rintro e z1 ⟨rfl, b1⟩
    go_wp2_with fail
    go_ret
    exact ⟨rfl, ((Below.refl w.heap.size w).alloc (Nat.le_refl _) _).trans (b1.mono (by simp))⟩
end Go.Proofs.YtlgimedadjpdiaaDoor.fnExactTableText
