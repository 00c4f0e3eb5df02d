/-
  Contracts of l02Inside, and of both FitsInside.
-/
import Derived.Test.YtgdekplkadnmpaaFits
namespace Go.Proofs.Ytgdekplkadnmpaa
open Go Go.RowKit
set_option linter.unusedVariables false

set_option maxHeartbeats 2000000 in
theorem sfit_any (a b c x y z : Int) (w : World) :
    Calls Try.prog 20 #[.agg #[.int .i8 a, .int .i8 b, .int .i8 c], .agg #[.int .i8 x, .int .i8 y, .int .i8 z]] w fun e w' => e = .returned (.bool (fitB a b c x y z)) ∧ Below w.heap.size w w' := by
  obtain ⟨l, hl⟩ : ∃ l, lo3 a b c = l := ⟨_, rfl⟩
  obtain ⟨m, hm⟩ : ∃ m, mi3 a b c = m := ⟨_, rfl⟩
  obtain ⟨h, hh⟩ : ∃ h, hi3 a b c = h := ⟨_, rfl⟩
  obtain ⟨l', hl'⟩ : ∃ l, lo3 x y z = l := ⟨_, rfl⟩
  obtain ⟨m', hm'⟩ : ∃ m, mi3 x y z = m := ⟨_, rfl⟩
  obtain ⟨h', hh'⟩ : ∃ h, hi3 x y z = h := ⟨_, rfl⟩
  have HF : Hid (fitB a b c x y z = decide (l < l' ∧ m < m' ∧ h < h')) := Lib.hid (by unfold fitB; rw [hl, hm, hh, hl', hm', hh'])
  have HA := Lib.hid (And.intro hl (And.intro hm hh))
  have HB := Lib.hid (And.intro hl' (And.intro hm' hh'))
  clear hl hm hh hl' hm' hh'
  rw [HF.out]
  go_enter Try.func20, Try.ntmps20
  go_wp2_with fail
  obtain ⟨v0, e0⟩ : ∃ v, w.alloc (.cells #[.int .i8 a, .int .i8 b, .int .i8 c] 38) = v := ⟨_, rfl⟩
  have s0 : v0.heap.size = w.heap.size + 1 := by rw [← e0]; simp
  have q0 : At3 v0 (w.heap.size) a b c := by rw [← e0]; exact At3.new _ _ _ _ _
  have c0 : Below w.heap.size w v0 := by rw [← e0]; exact (Below.refl _ _).alloc (Nat.le_refl _) _
  obtain ⟨v1, e1⟩ : ∃ v, v0.alloc (.cells #[.int .i8 x, .int .i8 y, .int .i8 z] 38) = v := ⟨_, rfl⟩
  have q1 : At3 v1 (w.heap.size + 1) x y z := by rw [← e1, ← s0]; exact At3.new _ _ _ _ _
  have c1 : Below w.heap.size w v1 := by rw [← e1]; exact c0.alloc (by omega) _
  rw [e0, e1]
  have C1 := Lib.hid c1
  have g10 := q1.1
  have g11 := q1.2.1
  have g12 := q1.2.2
  clear e0 e1 s0 q0 c0 c1
  go_wp2_with fail
  refine (ssort_any a b c _).mono ?_
  rintro e z1 ⟨rfl, b1⟩
  rw [HA.out.1, HA.out.2.1, HA.out.2.2]
  have q2 : At3 z1 (w.heap.size + 1) x y z := q1.below b1
  have hz1 : w.heap.size + 1 < z1.heap.size := World.block_lt_of_cell? z1 _ q2.1
  have C2 := Lib.hid (blink C1.out b1)
  obtain ⟨v2, e2⟩ : ∃ v, z1.alloc (.cells #[.int .i8 h, .int .i8 m, .int .i8 l] 38) = v := ⟨_, rfl⟩
  have q3 : At3 v2 (w.heap.size + 1) x y z := by rw [← e2]; exact q2.alloc _
  have k3 : At3 v2 z1.heap.size h m l := by rw [← e2]; exact At3.new _ _ _ _ _
  have C3 : Hid (Below w.heap.size w v2) := Lib.hid (by rw [← e2]; exact C2.out.alloc (by omega) _)
  have E2 := Lib.hid e2
  have r10 := q3.1
  have r11 := q3.2.1
  have r12 := q3.2.2
  clear e2 b1 g10 g11 g12 q1 q2
  go_wp2_with (rw [E2.out])
  refine (ssort_any x y z _).mono ?_
  rintro e z2 ⟨rfl, b2⟩
  rw [HB.out.1, HB.out.2.1, HB.out.2.2]
  have k4 : At3 z2 z1.heap.size h m l := k3.below b2
  have hz2 : z1.heap.size < z2.heap.size := World.block_lt_of_cell? z2 _ k4.1
  have C4 := Lib.hid (blink C3.out b2)
  have s0 := k4.1
  have s1 := k4.2.1
  have s2 := k4.2.2
  clear b2 q3 k3 r10 r11 r12 k4
  by_cases h3 : h < h'
  · by_cases h2 : m < m'
    · by_cases h1 : l < l'
      · have HD := Lib.hid (decide_eq_true (p := l < l' ∧ m < m' ∧ h < h') ⟨h1, h2, h3⟩)
        go_wp2_with fail
        go_ret
        exact ⟨ret_bool HD.out.symm, by repeat (first | exact C4.out | exact Below.refl _ _ | refine Below.drew ?_ | refine Below.setCell ?_ (by first | (simp; done) | (simp; omega) | omega) _ | refine Below.alloc ?_ (by first | (simp; done) | (simp; omega) | omega) _)⟩
      · have HD := Lib.hid (decide_eq_false (p := l < l' ∧ m < m' ∧ h < h') (by omega))
        have t1 : decide (l < l') = false := decide_eq_false h1
        go_wp2_with fail
        go_ret
        exact ⟨ret_bool HD.out.symm, by repeat (first | exact C4.out | exact Below.refl _ _ | refine Below.drew ?_ | refine Below.setCell ?_ (by first | (simp; done) | (simp; omega) | omega) _ | refine Below.alloc ?_ (by first | (simp; done) | (simp; omega) | omega) _)⟩
    · have HD := Lib.hid (decide_eq_false (p := l < l' ∧ m < m' ∧ h < h') (by omega))
      have t1 : decide (m < m') = false := decide_eq_false h2
      go_wp2_with fail
      go_ret
      exact ⟨ret_bool HD.out.symm, by repeat (first | exact C4.out | exact Below.refl _ _ | refine Below.drew ?_ | refine Below.setCell ?_ (by first | (simp; done) | (simp; omega) | omega) _ | refine Below.alloc ?_ (by first | (simp; done) | (simp; omega) | omega) _)⟩
  · have HD := Lib.hid (decide_eq_false (p := l < l' ∧ m < m' ∧ h < h') (by omega))
    have t1 : decide (h < h') = false := decide_eq_false h3
    go_wp2_with fail
    go_ret
    exact ⟨ret_bool HD.out.symm, by repeat (first | exact C4.out | exact Below.refl _ _ | refine Below.drew ?_ | refine Below.setCell ?_ (by first | (simp; done) | (simp; omega) | omega) _ | refine Below.alloc ?_ (by first | (simp; done) | (simp; omega) | omega) _)⟩

def fitCode (a b c x y z : Int) : Int := if okB a b c = true ∧ okB x y z = true then 0 else 1
def fitRes (a b c x y z : Int) : Bool := okB a b c && okB x y z && fitB a b c x y z
theorem fit_ok {a b c x y z : Int} (h : okB a b c = true) (g : okB x y z = true) : fitRes a b c x y z = fitB a b c x y z ∧ fitCode a b c x y z = 0 := by
  unfold fitRes fitCode; rw [if_pos ⟨h, g⟩, h, g]; exact ⟨by simp, rfl⟩
theorem fit_no1 {a b c x y z : Int} (h : okB a b c = false) : fitRes a b c x y z = false ∧ fitCode a b c x y z = 1 := by
  unfold fitRes fitCode; rw [if_neg (by rw [h]; simp), h]; exact ⟨by simp, rfl⟩
theorem fit_no2 {a b c x y z : Int} (g : okB x y z = false) : fitRes a b c x y z = false ∧ fitCode a b c x y z = 1 := by
  unfold fitRes fitCode; rw [if_neg (by rw [g]; simp), g]; exact ⟨by simp, rfl⟩
theorem ret_bi {p p' : Bool} {k k' : Int} (h : p' = p ∧ k' = k) : Ending.returned (.tuple #[.bool p, .int .i64 k]) = .returned (.tuple #[.bool p', .int .i64 k']) := by rw [h.1, h.2]

end Go.Proofs.Ytgdekplkadnmpaa
