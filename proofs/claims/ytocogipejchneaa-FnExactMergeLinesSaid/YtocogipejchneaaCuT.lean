/-
  Sums of forms; WorthOf and GramsOf on both sides.
-/
import Derived.Test.YtocogipejchneaaCuW
import Derived.Test.YtocogipejchneaaCuS
namespace Go.Proofs.Ytocogipejchneaa
open Go Go.RowKit
set_option linter.unusedVariables false

theorem keep3 {W : World} {B : Nat} {T : TypeId} {a b c : Value} (h : BlkA W B T #[a, b, c]) (x y z : Value) : BlkA (((W.setCell ⟨B, 0, none⟩ x).setCell ⟨B, 1, none⟩ y).setCell ⟨B, 2, none⟩ z) B T #[x, y, z] := ((h.set 0 x).set 1 y).set 2 z

set_option maxHeartbeats 2000000 in
theorem iwith_any (a b c x0 x1 x2 x3 : Int) (hf : FitL (x0, x1, x2, x3)) (ha : 0 ≤ a ∧ a ≤ 1000000000000) (hb : 0 ≤ b ∧ b ≤ 1000000000000) (hc : 0 ≤ c ∧ c ≤ 1000000000000) (w : World) :
    Calls Try.prog 34 #[.agg #[.int .i64 a, .int .i64 b, .int .i64 c], .agg #[.int .i8 x0, .int .i16 x1, .int .i32 x2, .int .i32 x3]] w fun e w' => e = .returned (.agg #[.int .i64 (a + x1), .int .i64 (b + x2), .int .i64 (c + x3)]) ∧ Below w.heap.size w w' := by
  unfold FitL at hf
  simp only at hf
  obtain ⟨⟨l0, u0⟩, ⟨l1, u1⟩, ⟨l2, u2⟩, l3, u3⟩ := hf
  obtain ⟨a0, a1⟩ := ha
  obtain ⟨b0, b1⟩ := hb
  obtain ⟨c0, c1⟩ := hc
  go_enter Try.func34, Try.ntmps34
  go_wp2
  exact bodyPost_ret (v := .agg #[.int .i64 (a + x1), .int .i64 (b + x2), .int .i64 (c + x3)]) (by simp [results, Try.results34, go_sem]) rfl ⟨rfl, by repeat (first | exact Below.refl _ _ | refine Below.drew ?_ | refine Below.setCell ?_ (by first | (simp; done) | (simp; omega) | omega) _ | refine Below.alloc ?_ (by first | (simp; done) | (simp; omega) | omega) _)⟩

theorem field_worth (a b c : Int) (w : World) : (Instr.field 56 (.agg #[.int .i64 a, .int .i64 b, .int .i64 c]) 1).run Try.prog w = .ok (.int .i64 b) w := by kernel_rfl
theorem field_grams (a b c : Int) (w : World) : (Instr.field 56 (.agg #[.int .i64 a, .int .i64 b, .int .i64 c]) 2).run Try.prog w = .ok (.int .i64 c) w := by kernel_rfl
/-! ### WorthOf, GramsOf -/
def codeF (cs ls : List (Int × Int × Int × Int)) : Int := if vldF cs ls = true then 0 else 1
def worthR (cs ls : List (Int × Int × Int × Int)) : Int := if vldF cs ls = true then worthTo ls ls.length else 0
def gramsR (cs ls : List (Int × Int × Int × Int)) : Int := if vldF cs ls = true then gramsTo ls ls.length else 0
theorem worth_ok {cs ls : List (Int × Int × Int × Int)} (h : vldF cs ls = true) : worthR cs ls = worthTo ls ls.length ∧ codeF cs ls = 0 := by unfold worthR codeF; rw [if_pos h, if_pos h]; exact ⟨rfl, rfl⟩
theorem worth_no {cs ls : List (Int × Int × Int × Int)} (h : vldF cs ls = false) : worthR cs ls = 0 ∧ codeF cs ls = 1 := by unfold worthR codeF; rw [if_neg (by rw [h]; simp), if_neg (by rw [h]; simp)]; exact ⟨rfl, rfl⟩
theorem grams_ok {cs ls : List (Int × Int × Int × Int)} (h : vldF cs ls = true) : gramsR cs ls = gramsTo ls ls.length ∧ codeF cs ls = 0 := by unfold gramsR codeF; rw [if_pos h, if_pos h]; exact ⟨rfl, rfl⟩
theorem grams_no {cs ls : List (Int × Int × Int × Int)} (h : vldF cs ls = false) : gramsR cs ls = 0 ∧ codeF cs ls = 1 := by unfold gramsR codeF; rw [if_neg (by rw [h]; simp), if_neg (by rw [h]; simp)]; exact ⟨rfl, rfl⟩

end Go.Proofs.Ytocogipejchneaa
