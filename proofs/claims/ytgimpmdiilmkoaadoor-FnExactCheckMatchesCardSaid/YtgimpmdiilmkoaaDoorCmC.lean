/-
  Whether a return can be matched with an order: both sides.
-/
import Derived.Test.YtgimpmdiilmkoaaDoorCmP
import Derived.Test.YtgimpmdiilmkoaaDoorBkI
namespace Go.Proofs.YtgimpmdiilmkoaaDoor
open Go Go.RowKit
set_option linter.unusedVariables false

theorem ret_boolC {a b : Bool} (h : a = b) : Ending.returned (.bool a) = .returned (.bool b) := by rw [h]
set_option maxHeartbeats 4000000 in
theorem scan_any (b b2 i j : Nat) (o0 o1 o2 o3 o4 r0 r1 r2 r3 days : Int) (ho4 : -32768 ≤ o4 ∧ o4 ≤ 32767) (hr3 : -32768 ≤ r3 ∧ r3 ≤ 32767) (w : World)
    (c0 : w.cell? ⟨b, j * 5, none⟩ = some (.int .i8 o0)) (c1 : w.cell? ⟨b, j * 5 + 1, none⟩ = some (.int .i8 o1)) (c4 : w.cell? ⟨b, j * 5 + 4, none⟩ = some (.int .i16 o4))
    (d0 : w.cell? ⟨b2, i * 4, none⟩ = some (.int .i8 r0)) (d1 : w.cell? ⟨b2, i * 4 + 1, none⟩ = some (.int .i8 r1)) (d3 : w.cell? ⟨b2, i * 4 + 3, none⟩ = some (.int .i16 r3)) :
    Calls Tryd.prog 73 #[.pointer (some ⟨b, j * 5, none⟩), .pointer (some ⟨b2, i * 4, none⟩), .int .i64 days] w fun e w' => e = .returned (.bool (canR (o0, o1, o2, o3, o4) (r0, r1, r2, r3) days)) ∧ Below w.heap.size w w' := by
  obtain ⟨hp, hp2⟩ := ho4
  obtain ⟨hq, hq2⟩ := hr3
  by_cases t0 : o0 = r0
  · have e0 : (o0 == r0) = true := by simpa using t0
    by_cases t1 : o1 = r1
    · have e1 : (o1 == r1) = true := by simpa using t1
      by_cases t2 : o4 ≤ r3
      · have e2 : decide (o4 ≤ r3) = true := decide_eq_true t2
        by_cases t3 : r3 - o4 ≤ days
        · have e3 : decide (r3 - o4 ≤ days) = true := decide_eq_true t3
          have H := Lib.hid (canR_true (o := (o0, o1, o2, o3, o4)) (r := (r0, r1, r2, r3)) (days := days) ⟨t0, t1, t2, t3⟩)
          clear t0 t1
          go_enter Tryd.func73, Tryd.ntmps73
          go_wp2_with fail
          go_quiet (fail)
          go_wp2_with fail
          go_ret
          exact ⟨(ret_boolC H.out).symm, below_drewN (Below.refl _ _) _⟩
        · have e3 : decide (r3 - o4 ≤ days) = false := decide_eq_false t3
          have H := Lib.hid (canR_false (o := (o0, o1, o2, o3, o4)) (r := (r0, r1, r2, r3)) (days := days) (fun h => t3 h.2.2.2))
          clear t0 t1 t3
          go_enter Tryd.func73, Tryd.ntmps73
          go_wp2_with fail
          go_quiet (fail)
          go_wp2_with fail
          go_ret
          exact ⟨(ret_boolC H.out).symm, below_drewN (Below.refl _ _) _⟩
      · have e2 : decide (o4 ≤ r3) = false := decide_eq_false t2
        have H := Lib.hid (canR_false (o := (o0, o1, o2, o3, o4)) (r := (r0, r1, r2, r3)) (days := days) (fun h => t2 h.2.2.1))
        clear t0 t1 t2
        go_enter Tryd.func73, Tryd.ntmps73
        go_wp2_with fail
        go_quiet (fail)
        go_wp2_with fail
        go_ret
        exact ⟨(ret_boolC H.out).symm, below_drewN (Below.refl _ _) _⟩
    · have e1 : (o1 == r1) = false := by simpa using t1
      have H := Lib.hid (canR_false (o := (o0, o1, o2, o3, o4)) (r := (r0, r1, r2, r3)) (days := days) (fun h => t1 h.2.1))
      clear t0 t1
      go_enter Tryd.func73, Tryd.ntmps73
      go_wp2_with fail
      go_quiet (fail)
      go_wp2_with fail
      go_ret
      exact ⟨(ret_boolC H.out).symm, below_drewN (Below.refl _ _) _⟩
  · have e0 : (o0 == r0) = false := by simpa using t0
    have H := Lib.hid (canR_false (o := (o0, o1, o2, o3, o4)) (r := (r0, r1, r2, r3)) (days := days) (fun h => t0 h.1))
    clear t0
    go_enter Tryd.func73, Tryd.ntmps73
    go_wp2_with fail
    go_quiet (fail)
    go_wp2_with fail
    go_ret
    exact ⟨(ret_boolC H.out).symm, below_drewN (Below.refl _ _) _⟩
end Go.Proofs.YtgimpmdiilmkoaaDoor
