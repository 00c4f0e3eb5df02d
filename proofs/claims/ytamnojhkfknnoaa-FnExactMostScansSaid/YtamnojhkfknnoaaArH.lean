/-
  The program's sets of hours: one later, both together, whether an hour is in a set.
-/
import Derived.Test.YtamnojhkfknnoaaArP
import Derived.Test.YtamnojhkfknnoaaArrIx
import Derived.Laws.BitsAllLaws
import Derived.StillTailTactics
import Derived.Laws.ResultCell
namespace Go.Proofs.Ytamnojhkfknnoaa
open Go Go.RowKit
set_option linter.unusedVariables false

def hw (N : Nat) : Array Value := #[.int .u64 (wd N 0 : Nat), .int .u64 (wd N 1 : Nat), .int .u64 (wd N 2 : Nat), .int .u64 (wd N 3 : Nat), .int .u64 (wd N 4 : Nat)]
/-- The value of a set of hours. -/
abbrev hv (N : Nat) : Value := .agg #[.int .u64 (wd N 0 : Nat), .int .u64 (wd N 1 : Nat), .int .u64 (wd N 2 : Nat), .int .u64 (wd N 3 : Nat), .int .u64 (wd N 4 : Nat)]
theorem u64_wrap (x : Int) (h : 0 ≤ x) : IntKind.u64.wrap x = x % 18446744073709551616 := IntKind.wrap_u64 x

set_option maxHeartbeats 4000000 in
set_option maxRecDepth 100000 in
theorem later_core (x0 x1 x2 x3 x4 y0 y1 y2 y3 y4 : Int) (w : World) (hx0 : 0 ≤ x0 ∧ x0 < 18446744073709551616) (hx1 : 0 ≤ x1 ∧ x1 < 18446744073709551616) (hx2 : 0 ≤ x2 ∧ x2 < 18446744073709551616) (hx3 : 0 ≤ x3 ∧ x3 < 18446744073709551616) (hx4 : 0 ≤ x4 ∧ x4 < 18446744073709551616) (e0 : bits BinOp.or IntKind.u64 (IntKind.u64.wrap (x0 * 2)) 0 = y0) (e1 : bits BinOp.or IntKind.u64 (IntKind.u64.wrap (x1 * 2)) (x0 / 9223372036854775808) = y1) (e2 : bits BinOp.or IntKind.u64 (IntKind.u64.wrap (x2 * 2)) (x1 / 9223372036854775808) = y2) (e3 : bits BinOp.or IntKind.u64 (IntKind.u64.wrap (x3 * 2)) (x2 / 9223372036854775808) = y3) (e4 : bits BinOp.or IntKind.u64 (IntKind.u64.wrap (x4 * 2)) (x3 / 9223372036854775808) = y4) :
    Calls Try.prog 65 #[.agg #[.int .u64 x0, .int .u64 x1, .int .u64 x2, .int .u64 x3, .int .u64 x4]] w fun e w' => e = .returned (.agg #[.int .u64 y0, .int .u64 y1, .int .u64 y2, .int .u64 y3, .int .u64 y4]) ∧ Below w.heap.size w w' := by
  go_enter Try.func65, Try.ntmps65
  go_wp2_with fail
  refine wp_loop_rounds 6 ?_
  rw [rounds_succ]
  go_wp2_with (refine wpList_index_arr (o := ⟨some 10, _, _, _, _, _⟩) rfl 92 90 (.tmp 6) (.tmp 7) rfl 5 _ .i64 0 (.int .u64 x0) rfl rfl Try.underlying92 (by decide) rfl _ Try.underlying90 rfl (by kernel_rfl) ?_)
  rw [rounds_succ]
  go_wp2_with (refine wpList_index_arr (o := ⟨some 10, _, _, _, _, _⟩) rfl 92 90 (.tmp 6) (.tmp 7) rfl 5 _ .i64 1 (.int .u64 x1) rfl rfl Try.underlying92 (by decide) rfl _ Try.underlying90 rfl (by kernel_rfl) ?_)
  rw [rounds_succ]
  go_wp2_with (refine wpList_index_arr (o := ⟨some 10, _, _, _, _, _⟩) rfl 92 90 (.tmp 6) (.tmp 7) rfl 5 _ .i64 2 (.int .u64 x2) rfl rfl Try.underlying92 (by decide) rfl _ Try.underlying90 rfl (by kernel_rfl) ?_)
  rw [rounds_succ]
  go_wp2_with (refine wpList_index_arr (o := ⟨some 10, _, _, _, _, _⟩) rfl 92 90 (.tmp 6) (.tmp 7) rfl 5 _ .i64 3 (.int .u64 x3) rfl rfl Try.underlying92 (by decide) rfl _ Try.underlying90 rfl (by kernel_rfl) ?_)
  rw [rounds_succ]
  go_wp2_with (refine wpList_index_arr (o := ⟨some 10, _, _, _, _, _⟩) rfl 92 90 (.tmp 6) (.tmp 7) rfl 5 _ .i64 4 (.int .u64 x4) rfl rfl Try.underlying92 (by decide) rfl _ Try.underlying90 rfl (by kernel_rfl) ?_)
  rw [rounds_succ]
  go_wp2_with fail
  exact bodyPost_ret (v := .agg #[.int .u64 y0, .int .u64 y1, .int .u64 y2, .int .u64 y3, .int .u64 y4]) (by simp [results, Try.results65, go_sem]) rfl ⟨rfl, by repeat (first | exact Below.refl _ _ | refine Below.setCell ?_ (by first | (simp; done) | (simp; omega)) _ | refine Below.alloc ?_ (by first | (simp; done) | (simp; omega)) _)⟩

theorem or_word (N i : Nat) (hi : i < 5) : bits BinOp.or IntKind.u64 (IntKind.u64.wrap ((wd N i : Nat) * 2)) (if i = 0 then 0 else ((wd N (i - 1) : Nat) : Int) / 9223372036854775808) = ((wd (lat N) i : Nat) : Int) := by
  have h1 := wd_lt N i
  have h2 := wd_lt N (i - 1)
  rw [u64_wrap _ (by omega), wd_lat N i hi]
  have e1 : ((wd N i : Nat) : Int) * 2 % 18446744073709551616 = ((wd N i * 2 % 18446744073709551616 : Nat) : Int) := by omega
  have e2 : (if i = 0 then (0 : Int) else ((wd N (i - 1) : Nat) : Int) / 9223372036854775808) = ((if i = 0 then 0 else wd N (i - 1) / 9223372036854775808 : Nat) : Int) := by split <;> omega
  rw [e1, e2]
  exact u64_or_nat _ _ (by omega) (by split <;> omega)
theorem ilater_any (N : Nat) (w : World) :
    Calls Try.prog 65 #[hv N] w fun e w' => e = .returned (hv (lat N)) ∧ Below w.heap.size w w' :=
  later_core _ _ _ _ _ _ _ _ _ _ w ⟨by omega, by have := wd_lt N 0; omega⟩ ⟨by omega, by have := wd_lt N 1; omega⟩ ⟨by omega, by have := wd_lt N 2; omega⟩ ⟨by omega, by have := wd_lt N 3; omega⟩ ⟨by omega, by have := wd_lt N 4; omega⟩ (or_word N 0 (by omega)) (or_word N 1 (by omega)) (or_word N 2 (by omega)) (or_word N 3 (by omega)) (or_word N 4 (by omega))

set_option maxHeartbeats 4000000 in
set_option maxRecDepth 100000 in
theorem or_core (x0 x1 x2 x3 x4 y0 y1 y2 y3 y4 z0 z1 z2 z3 z4 : Int) (w : World) (e0 : bits BinOp.or IntKind.u64 x0 y0 = z0) (e1 : bits BinOp.or IntKind.u64 x1 y1 = z1) (e2 : bits BinOp.or IntKind.u64 x2 y2 = z2) (e3 : bits BinOp.or IntKind.u64 x3 y3 = z3) (e4 : bits BinOp.or IntKind.u64 x4 y4 = z4) :
    Calls Try.prog 63 #[.agg #[.int .u64 x0, .int .u64 x1, .int .u64 x2, .int .u64 x3, .int .u64 x4], .agg #[.int .u64 y0, .int .u64 y1, .int .u64 y2, .int .u64 y3, .int .u64 y4]] w fun e w' => e = .returned (.agg #[.int .u64 z0, .int .u64 z1, .int .u64 z2, .int .u64 z3, .int .u64 z4]) ∧ Below w.heap.size w w' := by
  go_enter Try.func63, Try.ntmps63
  go_wp2_with fail
  refine wp_loop_rounds 6 ?_
  rw [rounds_succ]
  go_wp2_with (refine wpList_index_arr (o := ⟨some 11, _, _, _, _, _⟩) rfl 92 90 (.tmp 7) (.tmp 8) rfl 5 _ .i64 0 (.int .u64 y0) rfl rfl Try.underlying92 (by decide) rfl _ Try.underlying90 rfl (by kernel_rfl) ?_)
  rw [rounds_succ]
  go_wp2_with (refine wpList_index_arr (o := ⟨some 11, _, _, _, _, _⟩) rfl 92 90 (.tmp 7) (.tmp 8) rfl 5 _ .i64 1 (.int .u64 y1) rfl rfl Try.underlying92 (by decide) rfl _ Try.underlying90 rfl (by kernel_rfl) ?_)
  rw [rounds_succ]
  go_wp2_with (refine wpList_index_arr (o := ⟨some 11, _, _, _, _, _⟩) rfl 92 90 (.tmp 7) (.tmp 8) rfl 5 _ .i64 2 (.int .u64 y2) rfl rfl Try.underlying92 (by decide) rfl _ Try.underlying90 rfl (by kernel_rfl) ?_)
  rw [rounds_succ]
  go_wp2_with (refine wpList_index_arr (o := ⟨some 11, _, _, _, _, _⟩) rfl 92 90 (.tmp 7) (.tmp 8) rfl 5 _ .i64 3 (.int .u64 y3) rfl rfl Try.underlying92 (by decide) rfl _ Try.underlying90 rfl (by kernel_rfl) ?_)
  rw [rounds_succ]
  go_wp2_with (refine wpList_index_arr (o := ⟨some 11, _, _, _, _, _⟩) rfl 92 90 (.tmp 7) (.tmp 8) rfl 5 _ .i64 4 (.int .u64 y4) rfl rfl Try.underlying92 (by decide) rfl _ Try.underlying90 rfl (by kernel_rfl) ?_)
  rw [rounds_succ]
  go_wp2_with fail
  exact bodyPost_ret (v := .agg #[.int .u64 z0, .int .u64 z1, .int .u64 z2, .int .u64 z3, .int .u64 z4]) (by simp [results, Try.results63, go_sem]) rfl ⟨rfl, by repeat (first | exact Below.refl _ _ | refine Below.setCell ?_ (by first | (simp; done) | (simp; omega)) _ | refine Below.alloc ?_ (by first | (simp; done) | (simp; omega)) _)⟩
theorem ior_any (N M : Nat) (w : World) :
    Calls Try.prog 63 #[hv N, hv M] w fun e w' => e = .returned (hv (N ||| M)) ∧ Below w.heap.size w w' :=
  or_core _ _ _ _ _ _ _ _ _ _ _ _ _ _ _ w (by rw [wd_or]; exact u64_or_nat _ _ (wd_lt N 0) (wd_lt M 0)) (by rw [wd_or]; exact u64_or_nat _ _ (wd_lt N 1) (wd_lt M 1)) (by rw [wd_or]; exact u64_or_nat _ _ (wd_lt N 2) (wd_lt M 2)) (by rw [wd_or]; exact u64_or_nat _ _ (wd_lt N 3) (wd_lt M 3)) (by rw [wd_or]; exact u64_or_nat _ _ (wd_lt N 4) (wd_lt M 4))

end Go.Proofs.Ytamnojhkfknnoaa
