/-
  What LoadFor's sort calls: cmp.Compare at int8 and int64, cmp.Or of two, math/bits.Len of a small number.
-/
import Derived.Test.YtadhoodddedjjaaLdP
namespace Go.Proofs.Ytadhoodddedjjaa
open Go Go.RowKit
set_option linter.unusedVariables false

/-- cmp.Compare. -/
def cmpZ (x y : Int) : Int := if x < y then -1 else if y < x then 1 else 0
/-- cmp.Or of two. -/
def orZ (x y : Int) : Int := if x ≠ 0 then x else y

set_option maxHeartbeats 1000000 in
theorem nan8_any (x : Int) (w : World) : Calls Try.prog 82 #[.int .i8 x] w fun e w' => e = .returned (.bool false) ∧ w = w' := by
  have h : (x != x) = false := by simp
  go_enter Try.func82, Try.ntmps82
  go_wp2
  go_ret
  exact ⟨rfl, rfl⟩
set_option maxHeartbeats 1000000 in
theorem nan64_any (x : Int) (w : World) : Calls Try.prog 83 #[.int .i64 x] w fun e w' => e = .returned (.bool false) ∧ w = w' := by
  have h : (x != x) = false := by simp
  go_enter Try.func83, Try.ntmps83
  go_wp2
  go_ret
  exact ⟨rfl, rfl⟩
set_option maxHeartbeats 2000000 in
theorem cmp8_any (x y : Int) (w : World) : Calls Try.prog 57 #[.int .i8 x, .int .i8 y] w fun e w' => e = .returned (.int .i64 (cmpZ x y)) ∧ w = w' := by
  rcases Int.lt_trichotomy x y with h | h | h
  · have HE : Hid (cmpZ x y = -1) := Lib.hid (by simp [cmpZ, h])
    have t1 : decide (x < y) = true := decide_eq_true h
    rw [HE.out]
    go_enter Try.func57, Try.ntmps57
    go_wp2_with (go_at_call 82; refine (nan8_any _ _).mono ?_; rintro e w2 ⟨rfl, rfl⟩)
    go_ret
    exact ⟨rfl, rfl⟩
  · subst h
    have HE : Hid (cmpZ x x = 0) := Lib.hid (by simp [cmpZ])
    have t1 : decide (x < x) = false := by simp
    rw [HE.out]
    go_enter Try.func57, Try.ntmps57
    go_wp2_with (go_at_call 82; refine (nan8_any _ _).mono ?_; rintro e w2 ⟨rfl, rfl⟩)
    go_ret
    exact ⟨rfl, rfl⟩
  · have HE : Hid (cmpZ x y = 1) := Lib.hid (by simp [cmpZ, h, show ¬ x < y by omega])
    have t1 : decide (x < y) = false := decide_eq_false (by omega)
    have t2 : decide (y < x) = true := decide_eq_true h
    rw [HE.out]
    go_enter Try.func57, Try.ntmps57
    go_wp2_with (go_at_call 82; refine (nan8_any _ _).mono ?_; rintro e w2 ⟨rfl, rfl⟩)
    go_ret
    exact ⟨rfl, rfl⟩
set_option maxHeartbeats 2000000 in
theorem cmp64_any (x y : Int) (w : World) : Calls Try.prog 58 #[.int .i64 x, .int .i64 y] w fun e w' => e = .returned (.int .i64 (cmpZ x y)) ∧ w = w' := by
  rcases Int.lt_trichotomy x y with h | h | h
  · have HE : Hid (cmpZ x y = -1) := Lib.hid (by simp [cmpZ, h])
    have t1 : decide (x < y) = true := decide_eq_true h
    rw [HE.out]
    go_enter Try.func58, Try.ntmps58
    go_wp2_with (go_at_call 83; refine (nan64_any _ _).mono ?_; rintro e w2 ⟨rfl, rfl⟩)
    go_ret
    exact ⟨rfl, rfl⟩
  · subst h
    have HE : Hid (cmpZ x x = 0) := Lib.hid (by simp [cmpZ])
    have t1 : decide (x < x) = false := by simp
    rw [HE.out]
    go_enter Try.func58, Try.ntmps58
    go_wp2_with (go_at_call 83; refine (nan64_any _ _).mono ?_; rintro e w2 ⟨rfl, rfl⟩)
    go_ret
    exact ⟨rfl, rfl⟩
  · have HE : Hid (cmpZ x y = 1) := Lib.hid (by simp [cmpZ, h, show ¬ x < y by omega])
    have t1 : decide (x < y) = false := decide_eq_false (by omega)
    have t2 : decide (y < x) = true := decide_eq_true h
    rw [HE.out]
    go_enter Try.func58, Try.ntmps58
    go_wp2_with (go_at_call 83; refine (nan64_any _ _).mono ?_; rintro e w2 ⟨rfl, rfl⟩)
    go_ret
    exact ⟨rfl, rfl⟩
set_option maxHeartbeats 2000000 in
theorem or2_any (b : Nat) (x y : Int) (w : World) (h0 : w.cell? ⟨b, 0, none⟩ = some (.int .i64 x)) (h1 : w.cell? ⟨b, 1, none⟩ = some (.int .i64 y)) :
    Calls Try.prog 56 #[.slice (some ⟨b, 0, none⟩) 2 2] w fun e w' => e = .returned (.int .i64 (orZ x y)) ∧ w = w' := by
  by_cases hx : x = 0
  · have HE : Hid (orZ x y = y) := Lib.hid (by simp [orZ, hx])
    have t1 : (x != 0) = false := by simp [hx]
    rw [HE.out]
    clear hx
    by_cases hy : y = 0
    · have t2 : (y != 0) = false := by simp [hy]
      have HY := Lib.hid hy
      clear hy
      go_enter Try.func56, Try.ntmps56
      go_wp2_with fail
      refine wp_loop_rounds 3 ?_
      rw [rounds_succ]
      go_wp2
      rw [rounds_succ]
      go_wp2
      rw [rounds_succ]
      go_wp2
      go_ret
      exact ⟨by rw [HY.out]; rfl, rfl⟩
    · have t2 : (y != 0) = true := by simp [hy]
      clear hy
      go_enter Try.func56, Try.ntmps56
      go_wp2_with fail
      refine wp_loop_rounds 3 ?_
      rw [rounds_succ]
      go_wp2
      rw [rounds_succ]
      go_wp2
      go_ret
      exact ⟨rfl, rfl⟩
  · have HE : Hid (orZ x y = x) := Lib.hid (by simp [orZ, hx])
    have t1 : (x != 0) = true := by simp [hx]
    rw [HE.out]
    clear hx
    go_enter Try.func56, Try.ntmps56
    go_wp2_with fail
    refine wp_loop_rounds 3 ?_
    rw [rounds_succ]
    go_wp2
    go_ret
    exact ⟨rfl, rfl⟩
set_option maxHeartbeats 4000000 in
set_option maxRecDepth 100000 in
theorem blen_any (n : Nat) (h : n ≤ 10) (w : World) : Calls Try.prog 81 #[.int .u64 n] w fun e w' => (∃ m : Int, e = .returned (.int .i64 m)) ∧ Below w.heap.size w w' := by
  obtain rfl | rfl | rfl | rfl | rfl | rfl | rfl | rfl | rfl | rfl | rfl : n = 0 ∨ n = 1 ∨ n = 2 ∨ n = 3 ∨ n = 4 ∨ n = 5 ∨ n = 6 ∨ n = 7 ∨ n = 8 ∨ n = 9 ∨ n = 10 := by omega
  all_goals
    go_enter Try.func81, Try.ntmps81
    go_wp2
    go_ret
    exact ⟨⟨_, rfl⟩, by repeat (first | exact Below.refl _ _ | refine Below.drew ?_ | refine Below.alloc ?_ (by simp) _)⟩
end Go.Proofs.Ytadhoodddedjjaa
