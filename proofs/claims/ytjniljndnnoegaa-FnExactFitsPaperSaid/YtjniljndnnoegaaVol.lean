/-
  Contracts of both VolumeOf and of both FitsInside.
-/
import Derived.Test.YtjniljndnnoegaaSameB
import Derived.Deep.RegionWith
namespace Go.Proofs.Ytjniljndnnoegaa
open Go Go.RowKit
set_option linter.unusedVariables false

def volRes (a b c : Int) : Int := if okB a b c = true then a * b * c else 0
def volCode (a b c : Int) : Int := if okB a b c = true then 0 else 1
theorem vol_ok {a b c : Int} (h : okB a b c = true) : volRes a b c = a * b * c ∧ volCode a b c = 0 := by unfold volRes volCode; rw [if_pos h, if_pos h]; exact ⟨rfl, rfl⟩
theorem vol_no {a b c : Int} (h : okB a b c = false) : volRes a b c = 0 ∧ volCode a b c = 1 := by
  unfold volRes volCode; rw [if_neg (by rw [h]; simp), if_neg (by rw [h]; simp)]; exact ⟨rfl, rfl⟩
theorem ret_two {a b a' b' : Int} (h : a' = a ∧ b' = b) : Ending.returned (.tuple #[.int .i64 a, .int .i64 b]) = .returned (.tuple #[.int .i64 a', .int .i64 b']) := by rw [h.1, h.2]
theorem mul_in {a b A B : Int} (h0 : 0 ≤ a) (h1 : a ≤ A) (h2 : 0 ≤ b) (h3 : b ≤ B) : 0 ≤ a * b ∧ a * b ≤ A * B :=
  ⟨Int.mul_nonneg h0 h2, Int.mul_le_mul h1 h3 h2 (by omega)⟩

set_option maxHeartbeats 2000000 in
theorem ivol_any (a b c : Int) (w : World) (ha : I8s a b c) :
    Calls Try.prog 29 #[.agg #[.int .i8 a, .int .i8 b, .int .i8 c]] w fun e w' => e = .returned (.tuple #[.int .i64 (volRes a b c), .int .i64 (volCode a b c)]) ∧ Below w.heap.size w w' := by
  have HA := Lib.hid ha
  clear ha
  obtain ⟨W1, e1⟩ : ∃ W, w.alloc (.cells #[.int .i8 a, .int .i8 b, .int .i8 c] 26) = W := ⟨_, rfl⟩
  have HE1 := Lib.hid e1
  have B1 : Hid (Below w.heap.size w W1) := Lib.hid (by rw [← e1]; exact (Below.refl _ _).alloc (Nat.le_refl _) _)
  have Q1 : Hid (At3 W1 w.heap.size a b c) := Lib.hid (by rw [← e1]; exact At3.new _ _ _ _ _)
  clear e1
  obtain ⟨o, ho⟩ : ∃ o, okB a b c = o := ⟨_, rfl⟩
  have HO := Lib.hid ho
  clear ho
  cases o
  · have HR := Lib.hid (vol_no HO.out)
    go_enter Try.func29, Try.ntmps29
    go_wp2_with fail
    rw [HE1.out]
    refine (ivbox_any a b c _ HA.out).mono ?_
    rintro e w2 ⟨rfl, b2⟩
    rw [HO.out]
    have B2 := Lib.hid (blink B1.out b2)
    have q2 := Q1.out.below b2
    have g0 := q2.1
    have g1 := q2.2.1
    have g2 := q2.2.2
    clear b2 q2
    go_wp2_with fail
    go_ret2
    exact ⟨ret_two HR.out, by repeat (first | exact B2.out | exact Below.refl _ _ | refine Below.drew ?_ | refine Below.setCell ?_ (by first | (simp; done) | (simp; omega) | omega) _ | refine Below.alloc ?_ (by first | (simp; done) | (simp; omega) | omega) _)⟩
  · have HR := Lib.hid (vol_ok HO.out)
    obtain ⟨a1, a2, b1, b2, c1, c2⟩ := okB_spec HO.out
    have m1 := mul_in (A := 60) (B := 60) (show 0 ≤ a by omega) a2 (show 0 ≤ b by omega) b2
    have m2 := mul_in (A := 3600) (B := 60) m1.1 (by omega) (show 0 ≤ c by omega) c2
    obtain ⟨m11, m12⟩ := m1
    obtain ⟨m21, m22⟩ := m2
    go_enter Try.func29, Try.ntmps29
    go_wp2_with fail
    rw [HE1.out]
    refine (ivbox_any a b c _ HA.out).mono ?_
    rintro e w2 ⟨rfl, b2⟩
    rw [HO.out]
    have B2 := Lib.hid (blink B1.out b2)
    have q2 := Q1.out.below b2
    have g0 := q2.1
    have g1 := q2.2.1
    have g2 := q2.2.2
    clear b2 q2
    go_wp2_with fail
    go_ret2
    exact ⟨ret_two HR.out, by repeat (first | exact B2.out | exact Below.refl _ _ | refine Below.drew ?_ | refine Below.setCell ?_ (by first | (simp; done) | (simp; omega) | omega) _ | refine Below.alloc ?_ (by first | (simp; done) | (simp; omega) | omega) _)⟩

set_option maxHeartbeats 2000000 in
theorem svol_any (a b c : Int) (w : World) (ha : I8s a b c) :
    Calls Try.prog 28 #[.agg #[.int .i8 a, .int .i8 b, .int .i8 c]] w fun e w' => e = .returned (.tuple #[.int .i64 (volRes a b c), .int .i64 (volCode a b c)]) ∧ Below w.heap.size w w' := by
  have HA := Lib.hid ha
  clear ha
  obtain ⟨W1, e1⟩ : ∃ W, w.alloc (.cells #[.int .i8 a, .int .i8 b, .int .i8 c] 26) = W := ⟨_, rfl⟩
  have HE1 := Lib.hid e1
  have B1 : Hid (Below w.heap.size w W1) := Lib.hid (by rw [← e1]; exact (Below.refl _ _).alloc (Nat.le_refl _) _)
  have Q1 : Hid (At3 W1 w.heap.size a b c) := Lib.hid (by rw [← e1]; exact At3.new _ _ _ _ _)
  clear e1
  obtain ⟨o, ho⟩ : ∃ o, okB a b c = o := ⟨_, rfl⟩
  have HO := Lib.hid ho
  clear ho
  cases o
  · have HR := Lib.hid (vol_no HO.out)
    go_enter Try.func28, Try.ntmps28
    go_wp2_with fail
    rw [HE1.out]
    refine (sok_any a b c _ HA.out).mono ?_
    rintro e w2 ⟨rfl, b2⟩
    rw [HO.out]
    have B2 := Lib.hid (blink B1.out b2)
    have q2 := Q1.out.below b2
    have g0 := q2.1
    have g1 := q2.2.1
    have g2 := q2.2.2
    clear b2 q2
    go_wp2_with fail
    go_ret2
    exact ⟨ret_two HR.out, by repeat (first | exact B2.out | exact Below.refl _ _ | refine Below.drew ?_ | refine Below.setCell ?_ (by first | (simp; done) | (simp; omega) | omega) _ | refine Below.alloc ?_ (by first | (simp; done) | (simp; omega) | omega) _)⟩
  · have HR := Lib.hid (vol_ok HO.out)
    obtain ⟨a1, a2, b1, b2, c1, c2⟩ := okB_spec HO.out
    have m1 := mul_in (A := 60) (B := 60) (show 0 ≤ a by omega) a2 (show 0 ≤ b by omega) b2
    have m2 := mul_in (A := 3600) (B := 60) m1.1 (by omega) (show 0 ≤ c by omega) c2
    obtain ⟨m11, m12⟩ := m1
    obtain ⟨m21, m22⟩ := m2
    go_enter Try.func28, Try.ntmps28
    go_wp2_with fail
    rw [HE1.out]
    refine (sok_any a b c _ HA.out).mono ?_
    rintro e w2 ⟨rfl, b2⟩
    rw [HO.out]
    have B2 := Lib.hid (blink B1.out b2)
    have q2 := Q1.out.below b2
    have g0 := q2.1
    have g1 := q2.2.1
    have g2 := q2.2.2
    clear b2 q2
    go_wp2_with fail
    go_ret2
    exact ⟨ret_two HR.out, by repeat (first | exact B2.out | exact Below.refl _ _ | refine Below.drew ?_ | refine Below.setCell ?_ (by first | (simp; done) | (simp; omega) | omega) _ | refine Below.alloc ?_ (by first | (simp; done) | (simp; omega) | omega) _)⟩

end Go.Proofs.Ytjniljndnnoegaa
