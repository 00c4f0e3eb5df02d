/-
  The walk of FnExactFirstRolls: program and model answer the same at every argument; neither writes into its argument, and the answer is new memory.
-/
import Derived.Test.YtlobfhhdddedbaaToI
import Derived.Test.YtlobfhhdddedbaaRollS
import Derived.Test.YtlobfhhdddedbaaRollI
namespace Go.Proofs.Ytlobfhhdddedbaa.fnExactFirstRolls
open Go Go.RowKit
set_option linter.unusedVariables false

set_option maxHeartbeats 8000000 in
set_option maxRecDepth 100000 in
theorem walk (a : Option Addr) (len cap : Nat) (z : List Int) (a1 : Int) (w : World) (hr : IsRow .i64 w a len cap z) (w1 : (Lit.int .i64 a1).wf = true) :
    Calls Try.prog 3 #[.slice a len cap, .int .i64 a1] w fun e w' => e = .returned (.bool true) ∧ Below w.heap.size w w' := by
  by_cases hm : len ≤ 1048576
  · have t0 : decide ((1048576 : Int) < (len : Int)) = false := by simp; omega
    obtain ⟨xs, hxs⟩ : ∃ xs, z.take len = xs := ⟨_, rfl⟩
    have hxl : xs.length = len := by rw [← hxs]; exact hr.len_le
    have HX := Lib.hid hxs
    have HL := Lib.hid hxl
    have HXL : Hid (xs.length ≤ 1048576) := Lib.hid (by rw [hxl]; exact hm)
    have hxb : xs.length ≤ 1048576 := HXL.out
    have hlb := rollX_len xs a1
    clear hxs hxl
    go_enter Try.func3, Try.ntmps3
    go_wp2_with fail
    refine (toI_as a len cap z xs HX _ hr hm).mono ?_
    rintro e w1 ⟨rfl, o1, b1⟩
    go_wp2_with fail
    refine (sroll_any _ xs _ _ o1.reads HXL.out).mono ?_
    rintro e w2 ⟨v0, rfl, s2, b2⟩
    have c2 := blink b1 b2
    have l2 := s2.block
    go_wp2_with fail
    refine (toI_as a len cap z xs HX _ (hr.below c2) hm).mono ?_
    rintro e w3 ⟨rfl, o3, b3⟩
    have c3 := blink c2 b3
    have s3 := s2.below b3
    have h23 : w2.heap.size < w3.heap.size := (o3.block _ rfl).2
    have h12 : w1.heap.size ≤ w2.heap.size := b2.size
    have h01 : w.heap.size ≤ w1.heap.size := b1.size
    go_wp2_with fail
    refine (iroll_any _ xs _ _ o3.reads HXL.out).mono ?_
    rintro e w4 ⟨g0, rfl, g4, b4⟩
    have c4 := blink c3 b4
    have s4 := s3.below b4
    have o4 := o3.below b4
    have lg := g4.block
    go_wp2_with fail
    refine (eqI_any _ _ _ _ _ g4.reads s4.reads (by omega) (by omega)).mono ?_
    rintro e w5 ⟨rfl, b5⟩
    rw [eqB_true rfl]
    have c5 := blink c4 b5
    have s5 := s4.below b5
    have g5 := g4.below b5
    have o5 := o4.below b5
    go_wp2_with fail
    refine (toI_as a len cap z xs HX _ (hr.below c5) hm).mono ?_
    rintro e w6 ⟨rfl, o6, b6⟩
    have c6 := blink c5 b6
    have s6 := s5.below b6
    have g6 := g5.below b6
    have q6 := o5.below b6
    go_wp2_with fail
    refine (eqI_any _ _ xs xs _ q6.reads o6.reads HXL.out HXL.out).mono ?_
    rintro e w7 ⟨rfl, b7⟩
    rw [eqB_true rfl]
    have c7 := blink c6 b7
    have s7 := s6.below b7
    have g7 := g6.below b7
    have q7 := q6.below b7
    go_wp2_with fail
    refine (mark_any _ _ xs _ _ q7 (by omega) (by omega) HXL.out).mono ?_
    rintro e w8 ⟨rfl, q8, k8⟩
    have s8 := s7.kept k8 (apart_low (B := w2.heap.size) (fun k hk => (l2 k hk).2) (fun k hk => by simp [Value.ownBlock] at hk; omega))
    have g8 := g7.kept k8 (apart_high (B := w2.heap.size + 1) (fun k hk => by have := (lg k hk).1; omega) (fun k hk => by simp [Value.ownBlock] at hk; omega))
    have c8 : Below w.heap.size w w8 := c7.grown k8 c7.size (fun k hk => by simp [Value.ownBlock] at hk; omega)
    go_wp2_with fail
    refine (eqI_any _ _ _ _ _ g8.reads s8.reads (by omega) (by omega)).mono ?_
    rintro e w9 ⟨rfl, b9⟩
    rw [eqB_true rfl]
    have c9 := blink c8 b9
    have s9 := s8.below b9
    have g9 := g8.below b9
    go_wp2_with fail
    refine (mark_any _ _ _ _ _ g9 (by omega) (by omega) (by omega)).mono ?_
    rintro e w10 ⟨rfl, g10, k10⟩
    have s10 := s9.kept k10 (apart_low (B := w2.heap.size) (fun k hk => (l2 k hk).2) (fun k hk => by have := (lg k hk).1; omega))
    have c10 : Below w.heap.size w w10 := c9.grown k10 c9.size (fun k hk => by have := (lg k hk).1; omega)
    go_wp2_with fail
    refine (held_any _ _ _ _ g10.reads (by omega) (by omega) (by omega)).mono ?_
    rintro e w11 ⟨rfl, b11⟩
    have c11 := blink c10 b11
    have s11 := s10.below b11
    have g11 := g10.below b11
    go_wp2_with fail
    refine (toI_as a len cap z xs HX _ (hr.below c11) hm).mono ?_
    rintro e w12 ⟨rfl, o12, b12⟩
    have c12 := blink c11 b12
    have s12 := s11.below b12
    have g12 := g11.below b12
    go_wp2_with fail
    refine (iroll_any _ xs _ _ o12.reads HXL.out).mono ?_
    rintro e w13 ⟨h0, rfl, h13, b13⟩
    have c13 := blink c12 b13
    have s13 := s12.below b13
    have g13 := g12.below b13
    go_wp2_with fail
    refine (eqI_any _ _ _ _ _ h13.reads s13.reads (by omega) (by omega)).mono ?_
    rintro e w14 ⟨rfl, b14⟩
    rw [eqB_true rfl]
    have c14 := blink c13 b14
    have g14 := g13.below b14
    go_wp2_with fail
    refine (held_any _ _ _ _ g14.reads (by omega) (by omega) (by omega)).mono ?_
    rintro e w15 ⟨rfl, b15⟩
    go_wp2_with fail
    go_ret
    exact ⟨rfl, blink c14 b15⟩
  · have t0 : decide ((1048576 : Int) < (len : Int)) = true := by simp; omega
    go_enter Try.func3, Try.ntmps3
    go_wp2_with fail
    go_ret
    exact ⟨rfl, Below.refl _ _⟩
end Go.Proofs.Ytlobfhhdddedbaa.fnExactFirstRolls
