/-
  Contracts of wayLengths and of both StringFor.
-/
import Derived.Test.YtjniljndnnoegaaVol
import Derived.Test.YtjniljndnnoegaaOnes
import Derived.KernelRfl
namespace Go.Proofs.Ytjniljndnnoegaa
open Go Go.RowKit
set_option linter.unusedVariables false

set_option maxHeartbeats 2000000 in
theorem iway_any (a b c : Int) (w : World) (ha : I8s a b c) :
    Calls Try.prog 54 #[.agg #[.int .i8 a, .int .i8 b, .int .i8 c]] w fun e w' => e = .returned (.agg #[.int .i64 (2 * (b + c)), .int .i64 (2 * (a + c)), .int .i64 (2 * (a + b))]) ∧ Below w.heap.size w w' := by
  obtain ⟨⟨a1, a2⟩, ⟨b1, b2⟩, ⟨c1, c2⟩⟩ := ha
  obtain ⟨W0, e0⟩ : ∃ W, w.alloc (.cells #[.int .i8 a, .int .i8 b, .int .i8 c] 26) = W := ⟨_, rfl⟩
  have s0 : W0.heap.size = w.heap.size + 1 := by rw [← e0]; simp
  have q0 : At3 W0 w.heap.size a b c := by rw [← e0]; exact At3.new _ _ _ _ _
  obtain ⟨W1, e1⟩ : ∃ W, W0.alloc (.cells #[.int .i64 0, .int .i64 0, .int .i64 0] 65) = W := ⟨_, rfl⟩
  have b1' : Below w.heap.size w W1 := by
    rw [← e1]; refine Below.alloc ?_ (by omega) _
    rw [← e0]; exact (Below.refl _ _).alloc (Nat.le_refl _) _
  have q1 : At3 W1 w.heap.size a b c := by rw [← e1]; exact q0.alloc _
  have k1 : BlockI W1 (w.heap.size + 1) 65 [0, 0, 0] := by rw [← e1, ← s0]; exact BlockI.new _ _ [0, 0, 0]
  have E0 := Lib.hid e0
  have E1 := Lib.hid e1
  have B1 := Lib.hid b1'
  have g0 := q1.1
  have g1 := q1.2.1
  have g2 := q1.2.2
  have d0 := k1.cell 0 (by simp)
  have d1 := k1.cell 1 (by simp)
  have d2 := k1.cell 2 (by simp)
  have f0 := k1.frozen 0
  have f1 := k1.frozen 1
  have f2 := k1.frozen 2
  have K1 := Lib.hid k1
  clear e0 e1 s0 q0 b1' q1 k1
  go_enter Try.func54, Try.ntmps54
  go_wp2_with (rw [E0.out, E1.out])
  go_quiet (fail)
  go_wp2_with fail
  obtain ⟨Wf, eW⟩ : ∃ Wf, (((W1.drewN nq).setCell ⟨w.heap.size + 1, 0, none⟩ (.int .i64 (2 * (b + c)))).setCell ⟨w.heap.size + 1, 1, none⟩ (.int .i64 (2 * (a + c)))).setCell ⟨w.heap.size + 1, 2, none⟩ (.int .i64 (2 * (a + b))) = Wf := ⟨_, rfl⟩
  rw [eW]
  have kf : BlockI Wf (w.heap.size + 1) 65 [2 * (b + c), 2 * (a + c), 2 * (a + b)] := by
    rw [← eW]; exact ((BlockI.set (W := W1.drewN nq) K1.out 0 (2 * (b + c))).set 1 (2 * (a + c))).set 2 (2 * (a + b))
  have bf : Below w.heap.size w Wf := by rw [← eW]; exact (((below_drewN B1.out _).setCell (by simp) _).setCell (by simp) _).setCell (by simp) _
  have r0 := kf.cell 0 (by simp)
  have r1 := kf.cell 1 (by simp)
  have r2 := kf.cell 2 (by simp)
  simp at r0 r1 r2
  exact bodyPost_ret (v := .agg #[.int .i64 (2 * (b + c)), .int .i64 (2 * (a + c)), .int .i64 (2 * (a + b))]) (by simp [results, Try.results54, go_sem, r0, r1, r2]) rfl ⟨rfl, bf⟩

/-- How long the string is, and how many crossings there are: for the ways n. -/
def strL (a b c : Int) (n : Nat) : Int × Int := match n with
  | 0 => (0, 0)
  | 1 => (2 * (b + c), 0)
  | 2 => (2 * (a + c), 0)
  | 3 => (2 * (b + c) + 2 * (a + c) + 30, 2)
  | 4 => (2 * (a + b), 0)
  | 5 => (2 * (b + c) + 2 * (a + b) + 30, 2)
  | 6 => (2 * (a + c) + 2 * (a + b) + 30, 2)
  | 7 => (2 * (b + c) + 2 * (a + c) + 2 * (a + b) + 90, 6)
  | _ => (0, 0)
def strCode (a b c n : Int) : Int := if okB a b c = true then (if inB n 0 7 = true then 0 else 2) else 1
def strRes (a b c n : Int) : Int × Int := if strCode a b c n = 0 then strL a b c n.toNat else (0, 0)
theorem str_bad {a b c n : Int} (h : okB a b c = false) : strRes a b c n = (0, 0) ∧ strCode a b c n = 1 := by
  have e : strCode a b c n = 1 := by unfold strCode; rw [if_neg (by rw [h]; simp)]
  exact ⟨by unfold strRes; rw [e]; rfl, e⟩
theorem str_far {a b c n : Int} (h : okB a b c = true) (g : inB n 0 7 = false) : strRes a b c n = (0, 0) ∧ strCode a b c n = 2 := by
  have e : strCode a b c n = 2 := by unfold strCode; rw [if_pos h, if_neg (by rw [g]; simp)]
  exact ⟨by unfold strRes; rw [e]; rfl, e⟩
theorem str_in {a b c : Int} (n : Nat) (h : okB a b c = true) (g : n ≤ 7) : strRes a b c n = strL a b c n ∧ strCode a b c n = 0 := by
  have e : strCode a b c n = 0 := by unfold strCode; rw [if_pos h, if_pos (inB_true (by omega))]
  exact ⟨by unfold strRes; rw [e, if_pos rfl, Int.toNat_natCast], e⟩
theorem ret_str {a b c n x y k : Int} {r : Int × Int} (h : strRes a b c n = r ∧ strCode a b c n = k) (h1 : r.1 = x) (h2 : r.2 = y) :
    Ending.returned (.tuple #[.int .i64 x, .int .i64 y, .int .i64 k]) = .returned (.tuple #[.int .i64 (strRes a b c n).1, .int .i64 (strRes a b c n).2, .int .i64 (strCode a b c n)]) := by rw [h.1, h.2, h1, h2]

set_option maxHeartbeats 2000000 in
theorem istr_0 (a b c : Int) (w : World) (ha : I8s a b c) (ho : okB a b c = true) :
    Calls Try.prog 31 #[.agg #[.int .i8 a, .int .i8 b, .int .i8 c], .int .i64 0] w fun e w' => e = .returned (.tuple #[.int .i64 (strRes a b c 0).1, .int .i64 (strRes a b c 0).2, .int .i64 (strCode a b c 0)]) ∧ Below w.heap.size w w' := by
  have HA := Lib.hid ha
  clear ha
  obtain ⟨W1, e1⟩ : ∃ W, w.alloc (.cells #[.int .i8 a, .int .i8 b, .int .i8 c] 26) = W := ⟨_, rfl⟩
  have HE1 := Lib.hid e1
  have B1 : Hid (Below w.heap.size w W1) := Lib.hid (by rw [← e1]; exact (Below.refl _ _).alloc (Nat.le_refl _) _)
  have Q1 : Hid (At3 W1 w.heap.size a b c) := Lib.hid (by rw [← e1]; exact At3.new _ _ _ _ _)
  clear e1
  have HO := Lib.hid ho
  obtain ⟨a1, a2, b1, b2, c1, c2⟩ := okB_spec ho
  clear ho
  have HR : Hid (strRes a b c 0 = strL a b c 0 ∧ strCode a b c 0 = 0) := Lib.hid (str_in 0 HO.out (by omega))
  have hb0 : bits BinOp.and IntKind.i64 0 1 = 0 := by kernel_rfl
  have i0 : ∀ w, (Instr.index 65 (.agg #[.int .i64 (2 * (b + c)), .int .i64 (2 * (a + c)), .int .i64 (2 * (a + b))]) (.int .i64 0)).run Try.prog w = .ok (.int .i64 (2 * (b + c))) w := fun _ => by kernel_rfl
  have i1 : ∀ w, (Instr.index 65 (.agg #[.int .i64 (2 * (b + c)), .int .i64 (2 * (a + c)), .int .i64 (2 * (a + b))]) (.int .i64 1)).run Try.prog w = .ok (.int .i64 (2 * (a + c))) w := fun _ => by kernel_rfl
  have i2 : ∀ w, (Instr.index 65 (.agg #[.int .i64 (2 * (b + c)), .int .i64 (2 * (a + c)), .int .i64 (2 * (a + b))]) (.int .i64 2)).run Try.prog w = .ok (.int .i64 (2 * (a + b))) w := fun _ => by kernel_rfl
  go_enter Try.func31, Try.ntmps31
  go_wp2_with fail
  rw [HE1.out]
  refine (ivbox_any a b c _ HA.out).mono ?_
  rintro e w2 ⟨rfl, b2⟩
  rw [HO.out]
  have B2 := Lib.hid (blink B1.out b2)
  have q2 := Q1.out.below b2
  have g0 := q2.1
  have g1 := q2.2.1
  have g2 := q2.2.2
  clear b2 q2
  go_wp2_with fail
  refine (iway_any a b c _ HA.out).mono ?_
  rintro e w3 ⟨rfl, b3⟩
  have B3 := Lib.hid (blink B2.out b3)
  clear b3
  go_wp2_with fail
  refine wp_loop_rounds 4 ?_
  rw [rounds_succ]
  go_wp2_with fail
  rw [rounds_succ]
  go_wp2_with fail
  rw [rounds_succ]
  go_wp2_with fail
  rw [rounds_succ]
  go_wp2_with fail
  refine (ones_0 _).mono ?_
  rintro e w4 ⟨rfl, rfl⟩
  go_wp2_with fail
  go_ret3
  exact ⟨ret_str HR.out (by show 0 = _; omega) (by rfl), B3.out⟩

set_option maxHeartbeats 2000000 in
theorem istr_1 (a b c : Int) (w : World) (ha : I8s a b c) (ho : okB a b c = true) :
    Calls Try.prog 31 #[.agg #[.int .i8 a, .int .i8 b, .int .i8 c], .int .i64 1] w fun e w' => e = .returned (.tuple #[.int .i64 (strRes a b c 1).1, .int .i64 (strRes a b c 1).2, .int .i64 (strCode a b c 1)]) ∧ Below w.heap.size w w' := by
  have HA := Lib.hid ha
  clear ha
  obtain ⟨W1, e1⟩ : ∃ W, w.alloc (.cells #[.int .i8 a, .int .i8 b, .int .i8 c] 26) = W := ⟨_, rfl⟩
  have HE1 := Lib.hid e1
  have B1 : Hid (Below w.heap.size w W1) := Lib.hid (by rw [← e1]; exact (Below.refl _ _).alloc (Nat.le_refl _) _)
  have Q1 : Hid (At3 W1 w.heap.size a b c) := Lib.hid (by rw [← e1]; exact At3.new _ _ _ _ _)
  clear e1
  have HO := Lib.hid ho
  obtain ⟨a1, a2, b1, b2, c1, c2⟩ := okB_spec ho
  clear ho
  have HR : Hid (strRes a b c 1 = strL a b c 1 ∧ strCode a b c 1 = 0) := Lib.hid (str_in 1 HO.out (by omega))
  have hb0 : bits BinOp.and IntKind.i64 0 1 = 0 := by kernel_rfl
  have hb1 : bits BinOp.and IntKind.i64 1 1 = 1 := by kernel_rfl
  have i0 : ∀ w, (Instr.index 65 (.agg #[.int .i64 (2 * (b + c)), .int .i64 (2 * (a + c)), .int .i64 (2 * (a + b))]) (.int .i64 0)).run Try.prog w = .ok (.int .i64 (2 * (b + c))) w := fun _ => by kernel_rfl
  have i1 : ∀ w, (Instr.index 65 (.agg #[.int .i64 (2 * (b + c)), .int .i64 (2 * (a + c)), .int .i64 (2 * (a + b))]) (.int .i64 1)).run Try.prog w = .ok (.int .i64 (2 * (a + c))) w := fun _ => by kernel_rfl
  have i2 : ∀ w, (Instr.index 65 (.agg #[.int .i64 (2 * (b + c)), .int .i64 (2 * (a + c)), .int .i64 (2 * (a + b))]) (.int .i64 2)).run Try.prog w = .ok (.int .i64 (2 * (a + b))) w := fun _ => by kernel_rfl
  go_enter Try.func31, Try.ntmps31
  go_wp2_with fail
  rw [HE1.out]
  refine (ivbox_any a b c _ HA.out).mono ?_
  rintro e w2 ⟨rfl, b2⟩
  rw [HO.out]
  have B2 := Lib.hid (blink B1.out b2)
  have q2 := Q1.out.below b2
  have g0 := q2.1
  have g1 := q2.2.1
  have g2 := q2.2.2
  clear b2 q2
  go_wp2_with fail
  refine (iway_any a b c _ HA.out).mono ?_
  rintro e w3 ⟨rfl, b3⟩
  have B3 := Lib.hid (blink B2.out b3)
  clear b3
  go_wp2_with fail
  refine wp_loop_rounds 4 ?_
  rw [rounds_succ]
  go_wp2_with fail
  rw [rounds_succ]
  go_wp2_with fail
  rw [rounds_succ]
  go_wp2_with fail
  rw [rounds_succ]
  go_wp2_with fail
  refine (ones_1 _).mono ?_
  rintro e w4 ⟨rfl, rfl⟩
  go_wp2_with fail
  go_ret3
  exact ⟨ret_str HR.out (by show 2 * (b + c) = _; omega) (by rfl), B3.out⟩

set_option maxHeartbeats 2000000 in
theorem istr_2 (a b c : Int) (w : World) (ha : I8s a b c) (ho : okB a b c = true) :
    Calls Try.prog 31 #[.agg #[.int .i8 a, .int .i8 b, .int .i8 c], .int .i64 2] w fun e w' => e = .returned (.tuple #[.int .i64 (strRes a b c 2).1, .int .i64 (strRes a b c 2).2, .int .i64 (strCode a b c 2)]) ∧ Below w.heap.size w w' := by
  have HA := Lib.hid ha
  clear ha
  obtain ⟨W1, e1⟩ : ∃ W, w.alloc (.cells #[.int .i8 a, .int .i8 b, .int .i8 c] 26) = W := ⟨_, rfl⟩
  have HE1 := Lib.hid e1
  have B1 : Hid (Below w.heap.size w W1) := Lib.hid (by rw [← e1]; exact (Below.refl _ _).alloc (Nat.le_refl _) _)
  have Q1 : Hid (At3 W1 w.heap.size a b c) := Lib.hid (by rw [← e1]; exact At3.new _ _ _ _ _)
  clear e1
  have HO := Lib.hid ho
  obtain ⟨a1, a2, b1, b2, c1, c2⟩ := okB_spec ho
  clear ho
  have HR : Hid (strRes a b c 2 = strL a b c 2 ∧ strCode a b c 2 = 0) := Lib.hid (str_in 2 HO.out (by omega))
  have hb0 : bits BinOp.and IntKind.i64 0 1 = 0 := by kernel_rfl
  have hb1 : bits BinOp.and IntKind.i64 1 1 = 1 := by kernel_rfl
  have hb2 : bits BinOp.and IntKind.i64 2 1 = 0 := by kernel_rfl
  have i0 : ∀ w, (Instr.index 65 (.agg #[.int .i64 (2 * (b + c)), .int .i64 (2 * (a + c)), .int .i64 (2 * (a + b))]) (.int .i64 0)).run Try.prog w = .ok (.int .i64 (2 * (b + c))) w := fun _ => by kernel_rfl
  have i1 : ∀ w, (Instr.index 65 (.agg #[.int .i64 (2 * (b + c)), .int .i64 (2 * (a + c)), .int .i64 (2 * (a + b))]) (.int .i64 1)).run Try.prog w = .ok (.int .i64 (2 * (a + c))) w := fun _ => by kernel_rfl
  have i2 : ∀ w, (Instr.index 65 (.agg #[.int .i64 (2 * (b + c)), .int .i64 (2 * (a + c)), .int .i64 (2 * (a + b))]) (.int .i64 2)).run Try.prog w = .ok (.int .i64 (2 * (a + b))) w := fun _ => by kernel_rfl
  go_enter Try.func31, Try.ntmps31
  go_wp2_with fail
  rw [HE1.out]
  refine (ivbox_any a b c _ HA.out).mono ?_
  rintro e w2 ⟨rfl, b2⟩
  rw [HO.out]
  have B2 := Lib.hid (blink B1.out b2)
  have q2 := Q1.out.below b2
  have g0 := q2.1
  have g1 := q2.2.1
  have g2 := q2.2.2
  clear b2 q2
  go_wp2_with fail
  refine (iway_any a b c _ HA.out).mono ?_
  rintro e w3 ⟨rfl, b3⟩
  have B3 := Lib.hid (blink B2.out b3)
  clear b3
  go_wp2_with fail
  refine wp_loop_rounds 4 ?_
  rw [rounds_succ]
  go_wp2_with fail
  rw [rounds_succ]
  go_wp2_with fail
  rw [rounds_succ]
  go_wp2_with fail
  rw [rounds_succ]
  go_wp2_with fail
  refine (ones_2 _).mono ?_
  rintro e w4 ⟨rfl, rfl⟩
  go_wp2_with fail
  go_ret3
  exact ⟨ret_str HR.out (by show 2 * (a + c) = _; omega) (by rfl), B3.out⟩

set_option maxHeartbeats 2000000 in
theorem istr_3 (a b c : Int) (w : World) (ha : I8s a b c) (ho : okB a b c = true) :
    Calls Try.prog 31 #[.agg #[.int .i8 a, .int .i8 b, .int .i8 c], .int .i64 3] w fun e w' => e = .returned (.tuple #[.int .i64 (strRes a b c 3).1, .int .i64 (strRes a b c 3).2, .int .i64 (strCode a b c 3)]) ∧ Below w.heap.size w w' := by
  have HA := Lib.hid ha
  clear ha
  obtain ⟨W1, e1⟩ : ∃ W, w.alloc (.cells #[.int .i8 a, .int .i8 b, .int .i8 c] 26) = W := ⟨_, rfl⟩
  have HE1 := Lib.hid e1
  have B1 : Hid (Below w.heap.size w W1) := Lib.hid (by rw [← e1]; exact (Below.refl _ _).alloc (Nat.le_refl _) _)
  have Q1 : Hid (At3 W1 w.heap.size a b c) := Lib.hid (by rw [← e1]; exact At3.new _ _ _ _ _)
  clear e1
  have HO := Lib.hid ho
  obtain ⟨a1, a2, b1, b2, c1, c2⟩ := okB_spec ho
  clear ho
  have HR : Hid (strRes a b c 3 = strL a b c 3 ∧ strCode a b c 3 = 0) := Lib.hid (str_in 3 HO.out (by omega))
  have hb0 : bits BinOp.and IntKind.i64 0 1 = 0 := by kernel_rfl
  have hb1 : bits BinOp.and IntKind.i64 1 1 = 1 := by kernel_rfl
  have hb3 : bits BinOp.and IntKind.i64 3 1 = 1 := by kernel_rfl
  have i0 : ∀ w, (Instr.index 65 (.agg #[.int .i64 (2 * (b + c)), .int .i64 (2 * (a + c)), .int .i64 (2 * (a + b))]) (.int .i64 0)).run Try.prog w = .ok (.int .i64 (2 * (b + c))) w := fun _ => by kernel_rfl
  have i1 : ∀ w, (Instr.index 65 (.agg #[.int .i64 (2 * (b + c)), .int .i64 (2 * (a + c)), .int .i64 (2 * (a + b))]) (.int .i64 1)).run Try.prog w = .ok (.int .i64 (2 * (a + c))) w := fun _ => by kernel_rfl
  have i2 : ∀ w, (Instr.index 65 (.agg #[.int .i64 (2 * (b + c)), .int .i64 (2 * (a + c)), .int .i64 (2 * (a + b))]) (.int .i64 2)).run Try.prog w = .ok (.int .i64 (2 * (a + b))) w := fun _ => by kernel_rfl
  go_enter Try.func31, Try.ntmps31
  go_wp2_with fail
  rw [HE1.out]
  refine (ivbox_any a b c _ HA.out).mono ?_
  rintro e w2 ⟨rfl, b2⟩
  rw [HO.out]
  have B2 := Lib.hid (blink B1.out b2)
  have q2 := Q1.out.below b2
  have g0 := q2.1
  have g1 := q2.2.1
  have g2 := q2.2.2
  clear b2 q2
  go_wp2_with fail
  refine (iway_any a b c _ HA.out).mono ?_
  rintro e w3 ⟨rfl, b3⟩
  have B3 := Lib.hid (blink B2.out b3)
  clear b3
  go_wp2_with fail
  refine wp_loop_rounds 4 ?_
  rw [rounds_succ]
  go_wp2_with fail
  rw [rounds_succ]
  go_wp2_with fail
  rw [rounds_succ]
  go_wp2_with fail
  rw [rounds_succ]
  go_wp2_with fail
  refine (ones_3 _).mono ?_
  rintro e w4 ⟨rfl, rfl⟩
  go_wp2_with fail
  go_ret3
  exact ⟨ret_str HR.out (by show 2 * (b + c) + 2 * (a + c) + 30 = _; omega) (by rfl), B3.out⟩

set_option maxHeartbeats 2000000 in
theorem istr_4 (a b c : Int) (w : World) (ha : I8s a b c) (ho : okB a b c = true) :
    Calls Try.prog 31 #[.agg #[.int .i8 a, .int .i8 b, .int .i8 c], .int .i64 4] w fun e w' => e = .returned (.tuple #[.int .i64 (strRes a b c 4).1, .int .i64 (strRes a b c 4).2, .int .i64 (strCode a b c 4)]) ∧ Below w.heap.size w w' := by
  have HA := Lib.hid ha
  clear ha
  obtain ⟨W1, e1⟩ : ∃ W, w.alloc (.cells #[.int .i8 a, .int .i8 b, .int .i8 c] 26) = W := ⟨_, rfl⟩
  have HE1 := Lib.hid e1
  have B1 : Hid (Below w.heap.size w W1) := Lib.hid (by rw [← e1]; exact (Below.refl _ _).alloc (Nat.le_refl _) _)
  have Q1 : Hid (At3 W1 w.heap.size a b c) := Lib.hid (by rw [← e1]; exact At3.new _ _ _ _ _)
  clear e1
  have HO := Lib.hid ho
  obtain ⟨a1, a2, b1, b2, c1, c2⟩ := okB_spec ho
  clear ho
  have HR : Hid (strRes a b c 4 = strL a b c 4 ∧ strCode a b c 4 = 0) := Lib.hid (str_in 4 HO.out (by omega))
  have hb1 : bits BinOp.and IntKind.i64 1 1 = 1 := by kernel_rfl
  have hb2 : bits BinOp.and IntKind.i64 2 1 = 0 := by kernel_rfl
  have hb4 : bits BinOp.and IntKind.i64 4 1 = 0 := by kernel_rfl
  have i0 : ∀ w, (Instr.index 65 (.agg #[.int .i64 (2 * (b + c)), .int .i64 (2 * (a + c)), .int .i64 (2 * (a + b))]) (.int .i64 0)).run Try.prog w = .ok (.int .i64 (2 * (b + c))) w := fun _ => by kernel_rfl
  have i1 : ∀ w, (Instr.index 65 (.agg #[.int .i64 (2 * (b + c)), .int .i64 (2 * (a + c)), .int .i64 (2 * (a + b))]) (.int .i64 1)).run Try.prog w = .ok (.int .i64 (2 * (a + c))) w := fun _ => by kernel_rfl
  have i2 : ∀ w, (Instr.index 65 (.agg #[.int .i64 (2 * (b + c)), .int .i64 (2 * (a + c)), .int .i64 (2 * (a + b))]) (.int .i64 2)).run Try.prog w = .ok (.int .i64 (2 * (a + b))) w := fun _ => by kernel_rfl
  go_enter Try.func31, Try.ntmps31
  go_wp2_with fail
  rw [HE1.out]
  refine (ivbox_any a b c _ HA.out).mono ?_
  rintro e w2 ⟨rfl, b2⟩
  rw [HO.out]
  have B2 := Lib.hid (blink B1.out b2)
  have q2 := Q1.out.below b2
  have g0 := q2.1
  have g1 := q2.2.1
  have g2 := q2.2.2
  clear b2 q2
  go_wp2_with fail
  refine (iway_any a b c _ HA.out).mono ?_
  rintro e w3 ⟨rfl, b3⟩
  have B3 := Lib.hid (blink B2.out b3)
  clear b3
  go_wp2_with fail
  refine wp_loop_rounds 4 ?_
  rw [rounds_succ]
  go_wp2_with fail
  rw [rounds_succ]
  go_wp2_with fail
  rw [rounds_succ]
  go_wp2_with fail
  rw [rounds_succ]
  go_wp2_with fail
  refine (ones_4 _).mono ?_
  rintro e w4 ⟨rfl, rfl⟩
  go_wp2_with fail
  go_ret3
  exact ⟨ret_str HR.out (by show 2 * (a + b) = _; omega) (by rfl), B3.out⟩

set_option maxHeartbeats 2000000 in
theorem istr_5 (a b c : Int) (w : World) (ha : I8s a b c) (ho : okB a b c = true) :
    Calls Try.prog 31 #[.agg #[.int .i8 a, .int .i8 b, .int .i8 c], .int .i64 5] w fun e w' => e = .returned (.tuple #[.int .i64 (strRes a b c 5).1, .int .i64 (strRes a b c 5).2, .int .i64 (strCode a b c 5)]) ∧ Below w.heap.size w w' := by
  have HA := Lib.hid ha
  clear ha
  obtain ⟨W1, e1⟩ : ∃ W, w.alloc (.cells #[.int .i8 a, .int .i8 b, .int .i8 c] 26) = W := ⟨_, rfl⟩
  have HE1 := Lib.hid e1
  have B1 : Hid (Below w.heap.size w W1) := Lib.hid (by rw [← e1]; exact (Below.refl _ _).alloc (Nat.le_refl _) _)
  have Q1 : Hid (At3 W1 w.heap.size a b c) := Lib.hid (by rw [← e1]; exact At3.new _ _ _ _ _)
  clear e1
  have HO := Lib.hid ho
  obtain ⟨a1, a2, b1, b2, c1, c2⟩ := okB_spec ho
  clear ho
  have HR : Hid (strRes a b c 5 = strL a b c 5 ∧ strCode a b c 5 = 0) := Lib.hid (str_in 5 HO.out (by omega))
  have hb1 : bits BinOp.and IntKind.i64 1 1 = 1 := by kernel_rfl
  have hb2 : bits BinOp.and IntKind.i64 2 1 = 0 := by kernel_rfl
  have hb5 : bits BinOp.and IntKind.i64 5 1 = 1 := by kernel_rfl
  have i0 : ∀ w, (Instr.index 65 (.agg #[.int .i64 (2 * (b + c)), .int .i64 (2 * (a + c)), .int .i64 (2 * (a + b))]) (.int .i64 0)).run Try.prog w = .ok (.int .i64 (2 * (b + c))) w := fun _ => by kernel_rfl
  have i1 : ∀ w, (Instr.index 65 (.agg #[.int .i64 (2 * (b + c)), .int .i64 (2 * (a + c)), .int .i64 (2 * (a + b))]) (.int .i64 1)).run Try.prog w = .ok (.int .i64 (2 * (a + c))) w := fun _ => by kernel_rfl
  have i2 : ∀ w, (Instr.index 65 (.agg #[.int .i64 (2 * (b + c)), .int .i64 (2 * (a + c)), .int .i64 (2 * (a + b))]) (.int .i64 2)).run Try.prog w = .ok (.int .i64 (2 * (a + b))) w := fun _ => by kernel_rfl
  go_enter Try.func31, Try.ntmps31
  go_wp2_with fail
  rw [HE1.out]
  refine (ivbox_any a b c _ HA.out).mono ?_
  rintro e w2 ⟨rfl, b2⟩
  rw [HO.out]
  have B2 := Lib.hid (blink B1.out b2)
  have q2 := Q1.out.below b2
  have g0 := q2.1
  have g1 := q2.2.1
  have g2 := q2.2.2
  clear b2 q2
  go_wp2_with fail
  refine (iway_any a b c _ HA.out).mono ?_
  rintro e w3 ⟨rfl, b3⟩
  have B3 := Lib.hid (blink B2.out b3)
  clear b3
  go_wp2_with fail
  refine wp_loop_rounds 4 ?_
  rw [rounds_succ]
  go_wp2_with fail
  rw [rounds_succ]
  go_wp2_with fail
  rw [rounds_succ]
  go_wp2_with fail
  rw [rounds_succ]
  go_wp2_with fail
  refine (ones_5 _).mono ?_
  rintro e w4 ⟨rfl, rfl⟩
  go_wp2_with fail
  go_ret3
  exact ⟨ret_str HR.out (by show 2 * (b + c) + 2 * (a + b) + 30 = _; omega) (by rfl), B3.out⟩

set_option maxHeartbeats 2000000 in
theorem istr_6 (a b c : Int) (w : World) (ha : I8s a b c) (ho : okB a b c = true) :
    Calls Try.prog 31 #[.agg #[.int .i8 a, .int .i8 b, .int .i8 c], .int .i64 6] w fun e w' => e = .returned (.tuple #[.int .i64 (strRes a b c 6).1, .int .i64 (strRes a b c 6).2, .int .i64 (strCode a b c 6)]) ∧ Below w.heap.size w w' := by
  have HA := Lib.hid ha
  clear ha
  obtain ⟨W1, e1⟩ : ∃ W, w.alloc (.cells #[.int .i8 a, .int .i8 b, .int .i8 c] 26) = W := ⟨_, rfl⟩
  have HE1 := Lib.hid e1
  have B1 : Hid (Below w.heap.size w W1) := Lib.hid (by rw [← e1]; exact (Below.refl _ _).alloc (Nat.le_refl _) _)
  have Q1 : Hid (At3 W1 w.heap.size a b c) := Lib.hid (by rw [← e1]; exact At3.new _ _ _ _ _)
  clear e1
  have HO := Lib.hid ho
  obtain ⟨a1, a2, b1, b2, c1, c2⟩ := okB_spec ho
  clear ho
  have HR : Hid (strRes a b c 6 = strL a b c 6 ∧ strCode a b c 6 = 0) := Lib.hid (str_in 6 HO.out (by omega))
  have hb1 : bits BinOp.and IntKind.i64 1 1 = 1 := by kernel_rfl
  have hb3 : bits BinOp.and IntKind.i64 3 1 = 1 := by kernel_rfl
  have hb6 : bits BinOp.and IntKind.i64 6 1 = 0 := by kernel_rfl
  have i0 : ∀ w, (Instr.index 65 (.agg #[.int .i64 (2 * (b + c)), .int .i64 (2 * (a + c)), .int .i64 (2 * (a + b))]) (.int .i64 0)).run Try.prog w = .ok (.int .i64 (2 * (b + c))) w := fun _ => by kernel_rfl
  have i1 : ∀ w, (Instr.index 65 (.agg #[.int .i64 (2 * (b + c)), .int .i64 (2 * (a + c)), .int .i64 (2 * (a + b))]) (.int .i64 1)).run Try.prog w = .ok (.int .i64 (2 * (a + c))) w := fun _ => by kernel_rfl
  have i2 : ∀ w, (Instr.index 65 (.agg #[.int .i64 (2 * (b + c)), .int .i64 (2 * (a + c)), .int .i64 (2 * (a + b))]) (.int .i64 2)).run Try.prog w = .ok (.int .i64 (2 * (a + b))) w := fun _ => by kernel_rfl
  go_enter Try.func31, Try.ntmps31
  go_wp2_with fail
  rw [HE1.out]
  refine (ivbox_any a b c _ HA.out).mono ?_
  rintro e w2 ⟨rfl, b2⟩
  rw [HO.out]
  have B2 := Lib.hid (blink B1.out b2)
  have q2 := Q1.out.below b2
  have g0 := q2.1
  have g1 := q2.2.1
  have g2 := q2.2.2
  clear b2 q2
  go_wp2_with fail
  refine (iway_any a b c _ HA.out).mono ?_
  rintro e w3 ⟨rfl, b3⟩
  have B3 := Lib.hid (blink B2.out b3)
  clear b3
  go_wp2_with fail
  refine wp_loop_rounds 4 ?_
  rw [rounds_succ]
  go_wp2_with fail
  rw [rounds_succ]
  go_wp2_with fail
  rw [rounds_succ]
  go_wp2_with fail
  rw [rounds_succ]
  go_wp2_with fail
  refine (ones_6 _).mono ?_
  rintro e w4 ⟨rfl, rfl⟩
  go_wp2_with fail
  go_ret3
  exact ⟨ret_str HR.out (by show 2 * (a + c) + 2 * (a + b) + 30 = _; omega) (by rfl), B3.out⟩

set_option maxHeartbeats 2000000 in
theorem istr_7 (a b c : Int) (w : World) (ha : I8s a b c) (ho : okB a b c = true) :
    Calls Try.prog 31 #[.agg #[.int .i8 a, .int .i8 b, .int .i8 c], .int .i64 7] w fun e w' => e = .returned (.tuple #[.int .i64 (strRes a b c 7).1, .int .i64 (strRes a b c 7).2, .int .i64 (strCode a b c 7)]) ∧ Below w.heap.size w w' := by
  have HA := Lib.hid ha
  clear ha
  obtain ⟨W1, e1⟩ : ∃ W, w.alloc (.cells #[.int .i8 a, .int .i8 b, .int .i8 c] 26) = W := ⟨_, rfl⟩
  have HE1 := Lib.hid e1
  have B1 : Hid (Below w.heap.size w W1) := Lib.hid (by rw [← e1]; exact (Below.refl _ _).alloc (Nat.le_refl _) _)
  have Q1 : Hid (At3 W1 w.heap.size a b c) := Lib.hid (by rw [← e1]; exact At3.new _ _ _ _ _)
  clear e1
  have HO := Lib.hid ho
  obtain ⟨a1, a2, b1, b2, c1, c2⟩ := okB_spec ho
  clear ho
  have HR : Hid (strRes a b c 7 = strL a b c 7 ∧ strCode a b c 7 = 0) := Lib.hid (str_in 7 HO.out (by omega))
  have hb1 : bits BinOp.and IntKind.i64 1 1 = 1 := by kernel_rfl
  have hb3 : bits BinOp.and IntKind.i64 3 1 = 1 := by kernel_rfl
  have hb7 : bits BinOp.and IntKind.i64 7 1 = 1 := by kernel_rfl
  have i0 : ∀ w, (Instr.index 65 (.agg #[.int .i64 (2 * (b + c)), .int .i64 (2 * (a + c)), .int .i64 (2 * (a + b))]) (.int .i64 0)).run Try.prog w = .ok (.int .i64 (2 * (b + c))) w := fun _ => by kernel_rfl
  have i1 : ∀ w, (Instr.index 65 (.agg #[.int .i64 (2 * (b + c)), .int .i64 (2 * (a + c)), .int .i64 (2 * (a + b))]) (.int .i64 1)).run Try.prog w = .ok (.int .i64 (2 * (a + c))) w := fun _ => by kernel_rfl
  have i2 : ∀ w, (Instr.index 65 (.agg #[.int .i64 (2 * (b + c)), .int .i64 (2 * (a + c)), .int .i64 (2 * (a + b))]) (.int .i64 2)).run Try.prog w = .ok (.int .i64 (2 * (a + b))) w := fun _ => by kernel_rfl
  go_enter Try.func31, Try.ntmps31
  go_wp2_with fail
  rw [HE1.out]
  refine (ivbox_any a b c _ HA.out).mono ?_
  rintro e w2 ⟨rfl, b2⟩
  rw [HO.out]
  have B2 := Lib.hid (blink B1.out b2)
  have q2 := Q1.out.below b2
  have g0 := q2.1
  have g1 := q2.2.1
  have g2 := q2.2.2
  clear b2 q2
  go_wp2_with fail
  refine (iway_any a b c _ HA.out).mono ?_
  rintro e w3 ⟨rfl, b3⟩
  have B3 := Lib.hid (blink B2.out b3)
  clear b3
  go_wp2_with fail
  refine wp_loop_rounds 4 ?_
  rw [rounds_succ]
  go_wp2_with fail
  rw [rounds_succ]
  go_wp2_with fail
  rw [rounds_succ]
  go_wp2_with fail
  rw [rounds_succ]
  go_wp2_with fail
  refine (ones_7 _).mono ?_
  rintro e w4 ⟨rfl, rfl⟩
  go_wp2_with fail
  go_ret3
  exact ⟨ret_str HR.out (by show 2 * (b + c) + 2 * (a + c) + 2 * (a + b) + 90 = _; omega) (by rfl), B3.out⟩

set_option maxHeartbeats 2000000 in
theorem istr_any (a b c n : Int) (w : World) (ha : I8s a b c) (hn : (Lit.int .i64 n).wf = true) :
    Calls Try.prog 31 #[.agg #[.int .i8 a, .int .i8 b, .int .i8 c], .int .i64 n] w fun e w' => e = .returned (.tuple #[.int .i64 (strRes a b c n).1, .int .i64 (strRes a b c n).2, .int .i64 (strCode a b c n)]) ∧ Below w.heap.size w w' := by
  clear hn
  obtain ⟨o, ho⟩ : ∃ o, okB a b c = o := ⟨_, rfl⟩
  cases o
  · have HR := Lib.hid (str_bad (n := n) ho)
    have HO := Lib.hid ho
    clear ho
    have HA := Lib.hid ha
    clear ha
    obtain ⟨W1, e1⟩ : ∃ W, w.alloc (.cells #[.int .i8 a, .int .i8 b, .int .i8 c] 26) = W := ⟨_, rfl⟩
    have HE1 := Lib.hid e1
    have B1 : Hid (Below w.heap.size w W1) := Lib.hid (by rw [← e1]; exact (Below.refl _ _).alloc (Nat.le_refl _) _)
    have Q1 : Hid (At3 W1 w.heap.size a b c) := Lib.hid (by rw [← e1]; exact At3.new _ _ _ _ _)
    clear e1
    go_enter Try.func31, Try.ntmps31
    go_wp2_with fail
    rw [HE1.out]
    refine (ivbox_any a b c _ HA.out).mono ?_
    rintro e w2 ⟨rfl, b2⟩
    rw [HO.out]
    have B2 := Lib.hid (blink B1.out b2)
    have q2 := Q1.out.below b2
    have g0 := q2.1
    have g1 := q2.2.1
    have g2 := q2.2.2
    clear b2 q2
    go_wp2_with fail
    go_ret3
    exact ⟨ret_str HR.out rfl rfl, B2.out⟩
  · by_cases hin : 0 ≤ n ∧ n ≤ 7
    · have h8 : n = 0 ∨ n = 1 ∨ n = 2 ∨ n = 3 ∨ n = 4 ∨ n = 5 ∨ n = 6 ∨ n = 7 := by omega
      rcases h8 with rfl | rfl | rfl | rfl | rfl | rfl | rfl | rfl
      · exact istr_0 a b c w ha ho
      · exact istr_1 a b c w ha ho
      · exact istr_2 a b c w ha ho
      · exact istr_3 a b c w ha ho
      · exact istr_4 a b c w ha ho
      · exact istr_5 a b c w ha ho
      · exact istr_6 a b c w ha ho
      · exact istr_7 a b c w ha ho
    · have HR := Lib.hid (str_far (n := n) ho (inB_false hin))
      have HO := Lib.hid ho
      clear ho
      have HA := Lib.hid ha
      clear ha
      obtain ⟨W1, e1⟩ : ∃ W, w.alloc (.cells #[.int .i8 a, .int .i8 b, .int .i8 c] 26) = W := ⟨_, rfl⟩
      have HE1 := Lib.hid e1
      have B1 : Hid (Below w.heap.size w W1) := Lib.hid (by rw [← e1]; exact (Below.refl _ _).alloc (Nat.le_refl _) _)
      have Q1 : Hid (At3 W1 w.heap.size a b c) := Lib.hid (by rw [← e1]; exact At3.new _ _ _ _ _)
      clear e1
      by_cases h0 : n < 0
      · have t0 : decide (n < 0) = true := decide_eq_true h0
        go_enter Try.func31, Try.ntmps31
        go_wp2_with fail
        rw [HE1.out]
        refine (ivbox_any a b c _ HA.out).mono ?_
        rintro e w2 ⟨rfl, b2⟩
        rw [HO.out]
        have B2 := Lib.hid (blink B1.out b2)
        have q2 := Q1.out.below b2
        have g0 := q2.1
        have g1 := q2.2.1
        have g2 := q2.2.2
        clear b2 q2
        go_wp2_with fail
        go_ret3
        exact ⟨ret_str HR.out rfl rfl, B2.out⟩
      · have h7 : 7 < n := by omega
        have t0 : decide (n < 0) = false := decide_eq_false h0
        have t1 : decide (7 < n) = true := decide_eq_true h7
        go_enter Try.func31, Try.ntmps31
        go_wp2_with fail
        rw [HE1.out]
        refine (ivbox_any a b c _ HA.out).mono ?_
        rintro e w2 ⟨rfl, b2⟩
        rw [HO.out]
        have B2 := Lib.hid (blink B1.out b2)
        have q2 := Q1.out.below b2
        have g0 := q2.1
        have g1 := q2.2.1
        have g2 := q2.2.2
        clear b2 q2
        go_wp2_with fail
        go_ret3
        exact ⟨ret_str HR.out rfl rfl, B2.out⟩

set_option maxHeartbeats 2000000 in
theorem sstr_0 (a b c : Int) (w : World) (ha : I8s a b c) (ho : okB a b c = true) :
    Calls Try.prog 30 #[.agg #[.int .i8 a, .int .i8 b, .int .i8 c], .int .i64 0] w fun e w' => e = .returned (.tuple #[.int .i64 (strRes a b c 0).1, .int .i64 (strRes a b c 0).2, .int .i64 (strCode a b c 0)]) ∧ Below w.heap.size w w' := by
  have HA := Lib.hid ha
  clear ha
  obtain ⟨W1, e1⟩ : ∃ W, w.alloc (.cells #[.int .i8 a, .int .i8 b, .int .i8 c] 26) = W := ⟨_, rfl⟩
  have HE1 := Lib.hid e1
  have B1 : Hid (Below w.heap.size w W1) := Lib.hid (by rw [← e1]; exact (Below.refl _ _).alloc (Nat.le_refl _) _)
  have Q1 : Hid (At3 W1 w.heap.size a b c) := Lib.hid (by rw [← e1]; exact At3.new _ _ _ _ _)
  clear e1
  have HO := Lib.hid ho
  obtain ⟨a1, a2, b1, b2, c1, c2⟩ := okB_spec ho
  clear ho
  have HR : Hid (strRes a b c 0 = strL a b c 0 ∧ strCode a b c 0 = 0) := Lib.hid (str_in 0 HO.out (by omega))
  have hin := inB_true (show (0 : Int) ≤ 0 ∧ (0 : Int) ≤ 7 by omega)
  go_enter Try.func30, Try.ntmps30
  go_wp2_with fail
  rw [HE1.out]
  refine (sok_any a b c _ HA.out).mono ?_
  rintro e w2 ⟨rfl, b2⟩
  rw [HO.out]
  have B2 := Lib.hid (blink B1.out b2)
  have q2 := Q1.out.below b2
  have g0 := q2.1
  have g1 := q2.2.1
  have g2 := q2.2.2
  clear b2 q2
  go_wp2_with fail
  refine (in_any _ _ _ _).mono ?_
  rintro e w3 ⟨rfl, hw3⟩
  subst hw3
  rw [hin]
  go_wp2_with fail
  go_ret3
  exact ⟨ret_str HR.out (by show 0 = _; omega) (by rfl), B2.out⟩

set_option maxHeartbeats 2000000 in
theorem sstr_1 (a b c : Int) (w : World) (ha : I8s a b c) (ho : okB a b c = true) :
    Calls Try.prog 30 #[.agg #[.int .i8 a, .int .i8 b, .int .i8 c], .int .i64 1] w fun e w' => e = .returned (.tuple #[.int .i64 (strRes a b c 1).1, .int .i64 (strRes a b c 1).2, .int .i64 (strCode a b c 1)]) ∧ Below w.heap.size w w' := by
  have HA := Lib.hid ha
  clear ha
  obtain ⟨W1, e1⟩ : ∃ W, w.alloc (.cells #[.int .i8 a, .int .i8 b, .int .i8 c] 26) = W := ⟨_, rfl⟩
  have HE1 := Lib.hid e1
  have B1 : Hid (Below w.heap.size w W1) := Lib.hid (by rw [← e1]; exact (Below.refl _ _).alloc (Nat.le_refl _) _)
  have Q1 : Hid (At3 W1 w.heap.size a b c) := Lib.hid (by rw [← e1]; exact At3.new _ _ _ _ _)
  clear e1
  have HO := Lib.hid ho
  obtain ⟨a1, a2, b1, b2, c1, c2⟩ := okB_spec ho
  clear ho
  have HR : Hid (strRes a b c 1 = strL a b c 1 ∧ strCode a b c 1 = 0) := Lib.hid (str_in 1 HO.out (by omega))
  have hin := inB_true (show (0 : Int) ≤ 1 ∧ (1 : Int) ≤ 7 by omega)
  go_enter Try.func30, Try.ntmps30
  go_wp2_with fail
  rw [HE1.out]
  refine (sok_any a b c _ HA.out).mono ?_
  rintro e w2 ⟨rfl, b2⟩
  rw [HO.out]
  have B2 := Lib.hid (blink B1.out b2)
  have q2 := Q1.out.below b2
  have g0 := q2.1
  have g1 := q2.2.1
  have g2 := q2.2.2
  clear b2 q2
  go_wp2_with fail
  refine (in_any _ _ _ _).mono ?_
  rintro e w3 ⟨rfl, hw3⟩
  subst hw3
  rw [hin]
  go_wp2_with fail
  go_ret3
  exact ⟨ret_str HR.out (by show 2 * (b + c) = _; omega) (by rfl), B2.out⟩

set_option maxHeartbeats 2000000 in
theorem sstr_2 (a b c : Int) (w : World) (ha : I8s a b c) (ho : okB a b c = true) :
    Calls Try.prog 30 #[.agg #[.int .i8 a, .int .i8 b, .int .i8 c], .int .i64 2] w fun e w' => e = .returned (.tuple #[.int .i64 (strRes a b c 2).1, .int .i64 (strRes a b c 2).2, .int .i64 (strCode a b c 2)]) ∧ Below w.heap.size w w' := by
  have HA := Lib.hid ha
  clear ha
  obtain ⟨W1, e1⟩ : ∃ W, w.alloc (.cells #[.int .i8 a, .int .i8 b, .int .i8 c] 26) = W := ⟨_, rfl⟩
  have HE1 := Lib.hid e1
  have B1 : Hid (Below w.heap.size w W1) := Lib.hid (by rw [← e1]; exact (Below.refl _ _).alloc (Nat.le_refl _) _)
  have Q1 : Hid (At3 W1 w.heap.size a b c) := Lib.hid (by rw [← e1]; exact At3.new _ _ _ _ _)
  clear e1
  have HO := Lib.hid ho
  obtain ⟨a1, a2, b1, b2, c1, c2⟩ := okB_spec ho
  clear ho
  have HR : Hid (strRes a b c 2 = strL a b c 2 ∧ strCode a b c 2 = 0) := Lib.hid (str_in 2 HO.out (by omega))
  have hin := inB_true (show (0 : Int) ≤ 2 ∧ (2 : Int) ≤ 7 by omega)
  go_enter Try.func30, Try.ntmps30
  go_wp2_with fail
  rw [HE1.out]
  refine (sok_any a b c _ HA.out).mono ?_
  rintro e w2 ⟨rfl, b2⟩
  rw [HO.out]
  have B2 := Lib.hid (blink B1.out b2)
  have q2 := Q1.out.below b2
  have g0 := q2.1
  have g1 := q2.2.1
  have g2 := q2.2.2
  clear b2 q2
  go_wp2_with fail
  refine (in_any _ _ _ _).mono ?_
  rintro e w3 ⟨rfl, hw3⟩
  subst hw3
  rw [hin]
  go_wp2_with fail
  go_ret3
  exact ⟨ret_str HR.out (by show 2 * (a + c) = _; omega) (by rfl), B2.out⟩

set_option maxHeartbeats 2000000 in
theorem sstr_3 (a b c : Int) (w : World) (ha : I8s a b c) (ho : okB a b c = true) :
    Calls Try.prog 30 #[.agg #[.int .i8 a, .int .i8 b, .int .i8 c], .int .i64 3] w fun e w' => e = .returned (.tuple #[.int .i64 (strRes a b c 3).1, .int .i64 (strRes a b c 3).2, .int .i64 (strCode a b c 3)]) ∧ Below w.heap.size w w' := by
  have HA := Lib.hid ha
  clear ha
  obtain ⟨W1, e1⟩ : ∃ W, w.alloc (.cells #[.int .i8 a, .int .i8 b, .int .i8 c] 26) = W := ⟨_, rfl⟩
  have HE1 := Lib.hid e1
  have B1 : Hid (Below w.heap.size w W1) := Lib.hid (by rw [← e1]; exact (Below.refl _ _).alloc (Nat.le_refl _) _)
  have Q1 : Hid (At3 W1 w.heap.size a b c) := Lib.hid (by rw [← e1]; exact At3.new _ _ _ _ _)
  clear e1
  have HO := Lib.hid ho
  obtain ⟨a1, a2, b1, b2, c1, c2⟩ := okB_spec ho
  clear ho
  have HR : Hid (strRes a b c 3 = strL a b c 3 ∧ strCode a b c 3 = 0) := Lib.hid (str_in 3 HO.out (by omega))
  have hin := inB_true (show (0 : Int) ≤ 3 ∧ (3 : Int) ≤ 7 by omega)
  go_enter Try.func30, Try.ntmps30
  go_wp2_with fail
  rw [HE1.out]
  refine (sok_any a b c _ HA.out).mono ?_
  rintro e w2 ⟨rfl, b2⟩
  rw [HO.out]
  have B2 := Lib.hid (blink B1.out b2)
  have q2 := Q1.out.below b2
  have g0 := q2.1
  have g1 := q2.2.1
  have g2 := q2.2.2
  clear b2 q2
  go_wp2_with fail
  refine (in_any _ _ _ _).mono ?_
  rintro e w3 ⟨rfl, hw3⟩
  subst hw3
  rw [hin]
  go_wp2_with fail
  go_ret3
  exact ⟨ret_str HR.out (by show 2 * (b + c) + 2 * (a + c) + 30 = _; omega) (by rfl), B2.out⟩

set_option maxHeartbeats 2000000 in
theorem sstr_4 (a b c : Int) (w : World) (ha : I8s a b c) (ho : okB a b c = true) :
    Calls Try.prog 30 #[.agg #[.int .i8 a, .int .i8 b, .int .i8 c], .int .i64 4] w fun e w' => e = .returned (.tuple #[.int .i64 (strRes a b c 4).1, .int .i64 (strRes a b c 4).2, .int .i64 (strCode a b c 4)]) ∧ Below w.heap.size w w' := by
  have HA := Lib.hid ha
  clear ha
  obtain ⟨W1, e1⟩ : ∃ W, w.alloc (.cells #[.int .i8 a, .int .i8 b, .int .i8 c] 26) = W := ⟨_, rfl⟩
  have HE1 := Lib.hid e1
  have B1 : Hid (Below w.heap.size w W1) := Lib.hid (by rw [← e1]; exact (Below.refl _ _).alloc (Nat.le_refl _) _)
  have Q1 : Hid (At3 W1 w.heap.size a b c) := Lib.hid (by rw [← e1]; exact At3.new _ _ _ _ _)
  clear e1
  have HO := Lib.hid ho
  obtain ⟨a1, a2, b1, b2, c1, c2⟩ := okB_spec ho
  clear ho
  have HR : Hid (strRes a b c 4 = strL a b c 4 ∧ strCode a b c 4 = 0) := Lib.hid (str_in 4 HO.out (by omega))
  have hin := inB_true (show (0 : Int) ≤ 4 ∧ (4 : Int) ≤ 7 by omega)
  go_enter Try.func30, Try.ntmps30
  go_wp2_with fail
  rw [HE1.out]
  refine (sok_any a b c _ HA.out).mono ?_
  rintro e w2 ⟨rfl, b2⟩
  rw [HO.out]
  have B2 := Lib.hid (blink B1.out b2)
  have q2 := Q1.out.below b2
  have g0 := q2.1
  have g1 := q2.2.1
  have g2 := q2.2.2
  clear b2 q2
  go_wp2_with fail
  refine (in_any _ _ _ _).mono ?_
  rintro e w3 ⟨rfl, hw3⟩
  subst hw3
  rw [hin]
  go_wp2_with fail
  go_ret3
  exact ⟨ret_str HR.out (by show 2 * (a + b) = _; omega) (by rfl), B2.out⟩

set_option maxHeartbeats 2000000 in
theorem sstr_5 (a b c : Int) (w : World) (ha : I8s a b c) (ho : okB a b c = true) :
    Calls Try.prog 30 #[.agg #[.int .i8 a, .int .i8 b, .int .i8 c], .int .i64 5] w fun e w' => e = .returned (.tuple #[.int .i64 (strRes a b c 5).1, .int .i64 (strRes a b c 5).2, .int .i64 (strCode a b c 5)]) ∧ Below w.heap.size w w' := by
  have HA := Lib.hid ha
  clear ha
  obtain ⟨W1, e1⟩ : ∃ W, w.alloc (.cells #[.int .i8 a, .int .i8 b, .int .i8 c] 26) = W := ⟨_, rfl⟩
  have HE1 := Lib.hid e1
  have B1 : Hid (Below w.heap.size w W1) := Lib.hid (by rw [← e1]; exact (Below.refl _ _).alloc (Nat.le_refl _) _)
  have Q1 : Hid (At3 W1 w.heap.size a b c) := Lib.hid (by rw [← e1]; exact At3.new _ _ _ _ _)
  clear e1
  have HO := Lib.hid ho
  obtain ⟨a1, a2, b1, b2, c1, c2⟩ := okB_spec ho
  clear ho
  have HR : Hid (strRes a b c 5 = strL a b c 5 ∧ strCode a b c 5 = 0) := Lib.hid (str_in 5 HO.out (by omega))
  have hin := inB_true (show (0 : Int) ≤ 5 ∧ (5 : Int) ≤ 7 by omega)
  go_enter Try.func30, Try.ntmps30
  go_wp2_with fail
  rw [HE1.out]
  refine (sok_any a b c _ HA.out).mono ?_
  rintro e w2 ⟨rfl, b2⟩
  rw [HO.out]
  have B2 := Lib.hid (blink B1.out b2)
  have q2 := Q1.out.below b2
  have g0 := q2.1
  have g1 := q2.2.1
  have g2 := q2.2.2
  clear b2 q2
  go_wp2_with fail
  refine (in_any _ _ _ _).mono ?_
  rintro e w3 ⟨rfl, hw3⟩
  subst hw3
  rw [hin]
  go_wp2_with fail
  go_ret3
  exact ⟨ret_str HR.out (by show 2 * (b + c) + 2 * (a + b) + 30 = _; omega) (by rfl), B2.out⟩

set_option maxHeartbeats 2000000 in
theorem sstr_6 (a b c : Int) (w : World) (ha : I8s a b c) (ho : okB a b c = true) :
    Calls Try.prog 30 #[.agg #[.int .i8 a, .int .i8 b, .int .i8 c], .int .i64 6] w fun e w' => e = .returned (.tuple #[.int .i64 (strRes a b c 6).1, .int .i64 (strRes a b c 6).2, .int .i64 (strCode a b c 6)]) ∧ Below w.heap.size w w' := by
  have HA := Lib.hid ha
  clear ha
  obtain ⟨W1, e1⟩ : ∃ W, w.alloc (.cells #[.int .i8 a, .int .i8 b, .int .i8 c] 26) = W := ⟨_, rfl⟩
  have HE1 := Lib.hid e1
  have B1 : Hid (Below w.heap.size w W1) := Lib.hid (by rw [← e1]; exact (Below.refl _ _).alloc (Nat.le_refl _) _)
  have Q1 : Hid (At3 W1 w.heap.size a b c) := Lib.hid (by rw [← e1]; exact At3.new _ _ _ _ _)
  clear e1
  have HO := Lib.hid ho
  obtain ⟨a1, a2, b1, b2, c1, c2⟩ := okB_spec ho
  clear ho
  have HR : Hid (strRes a b c 6 = strL a b c 6 ∧ strCode a b c 6 = 0) := Lib.hid (str_in 6 HO.out (by omega))
  have hin := inB_true (show (0 : Int) ≤ 6 ∧ (6 : Int) ≤ 7 by omega)
  go_enter Try.func30, Try.ntmps30
  go_wp2_with fail
  rw [HE1.out]
  refine (sok_any a b c _ HA.out).mono ?_
  rintro e w2 ⟨rfl, b2⟩
  rw [HO.out]
  have B2 := Lib.hid (blink B1.out b2)
  have q2 := Q1.out.below b2
  have g0 := q2.1
  have g1 := q2.2.1
  have g2 := q2.2.2
  clear b2 q2
  go_wp2_with fail
  refine (in_any _ _ _ _).mono ?_
  rintro e w3 ⟨rfl, hw3⟩
  subst hw3
  rw [hin]
  go_wp2_with fail
  go_ret3
  exact ⟨ret_str HR.out (by show 2 * (a + c) + 2 * (a + b) + 30 = _; omega) (by rfl), B2.out⟩

set_option maxHeartbeats 2000000 in
theorem sstr_7 (a b c : Int) (w : World) (ha : I8s a b c) (ho : okB a b c = true) :
    Calls Try.prog 30 #[.agg #[.int .i8 a, .int .i8 b, .int .i8 c], .int .i64 7] w fun e w' => e = .returned (.tuple #[.int .i64 (strRes a b c 7).1, .int .i64 (strRes a b c 7).2, .int .i64 (strCode a b c 7)]) ∧ Below w.heap.size w w' := by
  have HA := Lib.hid ha
  clear ha
  obtain ⟨W1, e1⟩ : ∃ W, w.alloc (.cells #[.int .i8 a, .int .i8 b, .int .i8 c] 26) = W := ⟨_, rfl⟩
  have HE1 := Lib.hid e1
  have B1 : Hid (Below w.heap.size w W1) := Lib.hid (by rw [← e1]; exact (Below.refl _ _).alloc (Nat.le_refl _) _)
  have Q1 : Hid (At3 W1 w.heap.size a b c) := Lib.hid (by rw [← e1]; exact At3.new _ _ _ _ _)
  clear e1
  have HO := Lib.hid ho
  obtain ⟨a1, a2, b1, b2, c1, c2⟩ := okB_spec ho
  clear ho
  have HR : Hid (strRes a b c 7 = strL a b c 7 ∧ strCode a b c 7 = 0) := Lib.hid (str_in 7 HO.out (by omega))
  have hin := inB_true (show (0 : Int) ≤ 7 ∧ (7 : Int) ≤ 7 by omega)
  go_enter Try.func30, Try.ntmps30
  go_wp2_with fail
  rw [HE1.out]
  refine (sok_any a b c _ HA.out).mono ?_
  rintro e w2 ⟨rfl, b2⟩
  rw [HO.out]
  have B2 := Lib.hid (blink B1.out b2)
  have q2 := Q1.out.below b2
  have g0 := q2.1
  have g1 := q2.2.1
  have g2 := q2.2.2
  clear b2 q2
  go_wp2_with fail
  refine (in_any _ _ _ _).mono ?_
  rintro e w3 ⟨rfl, hw3⟩
  subst hw3
  rw [hin]
  go_wp2_with fail
  go_ret3
  exact ⟨ret_str HR.out (by show 2 * (b + c) + 2 * (a + c) + 2 * (a + b) + 90 = _; omega) (by rfl), B2.out⟩

set_option maxHeartbeats 2000000 in
theorem sstr_any (a b c n : Int) (w : World) (ha : I8s a b c) (hn : (Lit.int .i64 n).wf = true) :
    Calls Try.prog 30 #[.agg #[.int .i8 a, .int .i8 b, .int .i8 c], .int .i64 n] w fun e w' => e = .returned (.tuple #[.int .i64 (strRes a b c n).1, .int .i64 (strRes a b c n).2, .int .i64 (strCode a b c n)]) ∧ Below w.heap.size w w' := by
  clear hn
  obtain ⟨o, ho⟩ : ∃ o, okB a b c = o := ⟨_, rfl⟩
  cases o
  · have HR := Lib.hid (str_bad (n := n) ho)
    have HO := Lib.hid ho
    clear ho
    have HA := Lib.hid ha
    clear ha
    obtain ⟨W1, e1⟩ : ∃ W, w.alloc (.cells #[.int .i8 a, .int .i8 b, .int .i8 c] 26) = W := ⟨_, rfl⟩
    have HE1 := Lib.hid e1
    have B1 : Hid (Below w.heap.size w W1) := Lib.hid (by rw [← e1]; exact (Below.refl _ _).alloc (Nat.le_refl _) _)
    have Q1 : Hid (At3 W1 w.heap.size a b c) := Lib.hid (by rw [← e1]; exact At3.new _ _ _ _ _)
    clear e1
    go_enter Try.func30, Try.ntmps30
    go_wp2_with fail
    rw [HE1.out]
    refine (sok_any a b c _ HA.out).mono ?_
    rintro e w2 ⟨rfl, b2⟩
    rw [HO.out]
    have B2 := Lib.hid (blink B1.out b2)
    have q2 := Q1.out.below b2
    have g0 := q2.1
    have g1 := q2.2.1
    have g2 := q2.2.2
    clear b2 q2
    go_wp2_with fail
    go_ret3
    exact ⟨ret_str HR.out rfl rfl, B2.out⟩
  · by_cases hin : 0 ≤ n ∧ n ≤ 7
    · have h8 : n = 0 ∨ n = 1 ∨ n = 2 ∨ n = 3 ∨ n = 4 ∨ n = 5 ∨ n = 6 ∨ n = 7 := by omega
      rcases h8 with rfl | rfl | rfl | rfl | rfl | rfl | rfl | rfl
      · exact sstr_0 a b c w ha ho
      · exact sstr_1 a b c w ha ho
      · exact sstr_2 a b c w ha ho
      · exact sstr_3 a b c w ha ho
      · exact sstr_4 a b c w ha ho
      · exact sstr_5 a b c w ha ho
      · exact sstr_6 a b c w ha ho
      · exact sstr_7 a b c w ha ho
    · have HR := Lib.hid (str_far (n := n) ho (inB_false hin))
      have HO := Lib.hid ho
      clear ho
      have HA := Lib.hid ha
      clear ha
      obtain ⟨W1, e1⟩ : ∃ W, w.alloc (.cells #[.int .i8 a, .int .i8 b, .int .i8 c] 26) = W := ⟨_, rfl⟩
      have HE1 := Lib.hid e1
      have B1 : Hid (Below w.heap.size w W1) := Lib.hid (by rw [← e1]; exact (Below.refl _ _).alloc (Nat.le_refl _) _)
      have Q1 : Hid (At3 W1 w.heap.size a b c) := Lib.hid (by rw [← e1]; exact At3.new _ _ _ _ _)
      clear e1
      have hi := inB_false hin
      clear hin
      go_enter Try.func30, Try.ntmps30
      go_wp2_with fail
      rw [HE1.out]
      refine (sok_any a b c _ HA.out).mono ?_
      rintro e w2 ⟨rfl, b2⟩
      rw [HO.out]
      have B2 := Lib.hid (blink B1.out b2)
      have q2 := Q1.out.below b2
      have g0 := q2.1
      have g1 := q2.2.1
      have g2 := q2.2.2
      clear b2 q2
      go_wp2_with fail
      refine (in_any _ _ _ _).mono ?_
      rintro e w3 ⟨rfl, hw3⟩
      subst hw3
      rw [hi]
      go_wp2_with fail
      go_ret3
      exact ⟨ret_str HR.out rfl rfl, B2.out⟩
end Go.Proofs.Ytjniljndnnoegaa
