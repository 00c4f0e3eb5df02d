/-
  The walk of FnExactLeastCut: program and model answer the same at every argument, and neither writes into its argument.
-/
import Derived.Test.YtpefkdhmkamdaaaCfJ
namespace Go.Proofs.Ytpefkdhmkamdaaa.fnExactLeastCut
open Go Go.RowKit
set_option linter.unusedVariables false

set_option maxHeartbeats 2000000 in
set_option maxRecDepth 100000 in
theorem walk (x00 x01 x02 : Int) (a1 : Int) (w : World) (w0 : I8s x00 x01 x02) (w1 : (Lit.int .i64 a1).wf = true) :
    Calls Try.prog 3 #[.agg #[.int .i8 x00, .int .i8 x01, .int .i8 x02], .int .i64 a1] w fun e w' => e = .returned (.bool true) ∧ Below w.heap.size w w' := by
  have H0 := Lib.hid w0
  clear w0
  have H1 := Lib.hid w1
  clear w1
  go_enter Try.func3, Try.ntmps3
  go_wp2_with fail
  obtain ⟨v0, e0⟩ : ∃ v, w.alloc (.cells #[.int .i8 x00, .int .i8 x01, .int .i8 x02] 24) = v := ⟨_, rfl⟩
  have s0 : v0.heap.size = w.heap.size + 1 := by rw [← e0]; simp
  have q0 : At3 v0 (w.heap.size) x00 x01 x02 := by rw [← e0]; exact At3.new _ _ _ _ _
  have c0 : Below w.heap.size w v0 := by rw [← e0]; exact (Below.refl _ _).alloc (Nat.le_refl _) _
  rw [e0]
  have C := Lib.hid c0
  clear e0 c0
  refine (toBox_any x00 x01 x02 _).mono ?_
  rintro e z0 ⟨rfl, b0⟩
  have q0 : At3 z0 (w.heap.size) x00 x01 x02 := by first | exact q0.below b0 | exact (q0.alloc _).below b0 | exact ((q0.alloc _).alloc _).below b0
  have g00 := q0.1
  have g01 := q0.2.1
  have g02 := q0.2.2
  have l0 : w.heap.size < z0.heap.size := World.block_lt_of_cell? z0 _ g00
  have C : Hid (Below w.heap.size w z0) := Lib.hid (by first | exact blink C.out b0 | exact blink (C.out.alloc (by omega) _) b0 | exact blink ((C.out.alloc (by omega) _).alloc (by simp; omega) _) b0)
  clear b0
  go_wp2_with fail
  refine (slc_any x00 x01 x02 a1 _ H0.out H1.out).mono ?_
  rintro e z1 ⟨rfl, b1⟩
  have q0 : At3 z1 (w.heap.size) x00 x01 x02 := by first | exact q0.below b1 | exact (q0.alloc _).below b1 | exact ((q0.alloc _).alloc _).below b1
  have g00 := q0.1
  have g01 := q0.2.1
  have g02 := q0.2.2
  have l0 : w.heap.size < z1.heap.size := World.block_lt_of_cell? z1 _ g00
  have C : Hid (Below w.heap.size w z1) := Lib.hid (by first | exact blink C.out b1 | exact blink (C.out.alloc (by omega) _) b1 | exact blink ((C.out.alloc (by omega) _).alloc (by simp; omega) _) b1)
  clear b1
  go_wp2_with fail
  refine (toBox_any x00 x01 x02 _).mono ?_
  rintro e z2 ⟨rfl, b2⟩
  have q0 : At3 z2 (w.heap.size) x00 x01 x02 := by first | exact q0.below b2 | exact (q0.alloc _).below b2 | exact ((q0.alloc _).alloc _).below b2
  have g00 := q0.1
  have g01 := q0.2.1
  have g02 := q0.2.2
  have l0 : w.heap.size < z2.heap.size := World.block_lt_of_cell? z2 _ g00
  have C : Hid (Below w.heap.size w z2) := Lib.hid (by first | exact blink C.out b2 | exact blink (C.out.alloc (by omega) _) b2 | exact blink ((C.out.alloc (by omega) _).alloc (by simp; omega) _) b2)
  clear b2
  go_wp2_with fail
  refine (ilc_any x00 x01 x02 a1 _ H0.out H1.out).mono ?_
  rintro e z3 ⟨rfl, b3⟩
  have q0 : At3 z3 (w.heap.size) x00 x01 x02 := by first | exact q0.below b3 | exact (q0.alloc _).below b3 | exact ((q0.alloc _).alloc _).below b3
  have g00 := q0.1
  have g01 := q0.2.1
  have g02 := q0.2.2
  have l0 : w.heap.size < z3.heap.size := World.block_lt_of_cell? z3 _ g00
  have C : Hid (Below w.heap.size w z3) := Lib.hid (by first | exact blink C.out b3 | exact blink (C.out.alloc (by omega) _) b3 | exact blink ((C.out.alloc (by omega) _).alloc (by simp; omega) _) b3)
  clear b3
  go_wp2_with fail
  go_ret
  exact ⟨rfl, by first | exact C.out | exact C.out.alloc (by omega) _⟩
end Go.Proofs.Ytpefkdhmkamdaaa.fnExactLeastCut
