/-
  StillWith: the program's, whatever the arguments are.
-/
import Derived.Test.YtgimpmdiilmkoaaDoorSwI
namespace Go.Proofs.YtgimpmdiilmkoaaDoor
open Go Go.RowKit
set_option linter.unusedVariables false

set_option maxHeartbeats 8000000 in
set_option maxRecDepth 100000 in
theorem istill_any (v u : Value) (ps : List Q5) (rs : List Q4) (buyer item : Int) (w : World) (hv : ReadsOd w v ps) (hu : ReadsRt w u rs) (hfo : FitsOd ps) (hfr : FitsRt rs) (hx : ps.length ≤ 1048576) (hy : rs.length ≤ 1048576) :
    Calls Tryd.prog 17 #[v, u, .int .i64 buyer, .int .i64 item] w fun e w' => e = .returned (.tuple #[.int .i64 (stillRes ps rs buyer item), .int .i64 (bkC ps rs (knownB buyer item))]) ∧ Below w.heap.size w w' := by
  by_cases g : (vldOd ps && vldRt rs) = true
  · obtain ⟨g1, g2⟩ : vldOd ps = true ∧ vldRt rs = true := by simpa using g
    by_cases g3 : knownB buyer item = true
    · have h := istill_ok v u ps rs buyer item w hv hu hfo hfr g1 g2 g3
      have hb : bkC ps rs (knownB buyer item) = 0 := by rw [g3, bkC_0 g]
      unfold stillRes
      rw [if_pos hb, hb]
      exact h
    · have g3 : knownB buyer item = false := by simpa using g3
      have hb : bkC ps rs (knownB buyer item) = 2 := by rw [g3, bkC_2 g]
      unfold stillRes
      rw [if_neg (by rw [hb]; decide), hb]
      have HV := Lib.hid hv
      have HU := Lib.hid hu
      have HG1 := Lib.hid g1
      have HG2 := Lib.hid g2
      have HKN := Lib.hid g3
      clear g g1 g2 g3 hb hv hu
      go_enter Tryd.func17, Tryd.ntmps17
      go_wp2_with fail
      refine (ibooks_ok _ _ ps rs 0 _ HV.out HU.out hfo hfr HG1.out HG2.out (by decide)).mono ?_
      rintro e w1 ⟨v0, v1, rfl, ho0, ho1, q1⟩
      obtain ⟨a, l, cap, rfl⟩ := row_is ho0
      obtain ⟨a2, l2, cap2, rfl⟩ := row_is ho1
      have HQ := Lib.hid q1
      have hs01 := q1.size
      clear ho0 ho1 q1
      go_wp2_with (first | (go_at_call 56; refine (iknown_any _ _ _).mono ?_; rintro e w3 ⟨rfl, hw3⟩; rw [hw3, HKN.out]; clear hw3 w3) | (go_at_call 57; refine (code_B _).mono ?_; rintro e w4 ⟨rfl, b4⟩))
      go_ret2
      exact ⟨rfl, (HQ.out.trans (Below.alloc (Below.refl _ _) hs01 _)).trans (b4.mono (by simp; omega))⟩
  · have g : (vldOd ps && vldRt rs) = false := by simpa using g
    have hb : bkC ps rs (knownB buyer item) = 1 := bkC_1 g
    have hb0 : bkC ps rs (dayB 0) = 1 := bkC_1 g
    unfold stillRes
    rw [if_neg (by rw [hb]; decide), hb]
    have HV := Lib.hid hv
    have HU := Lib.hid hu
    have HB0 := Lib.hid hb0
    clear g hb hb0 hv hu
    go_enter Tryd.func17, Tryd.ntmps17
    go_wp2_with fail
    refine (ibooks_no _ _ ps rs 0 1 _ HV.out HU.out hfo hfr hx hy HB0.out (by decide)).mono ?_
    rintro e w1 ⟨rfl, q1⟩
    rw [errV_1]
    unfold noBooks
    have HQ := Lib.hid q1
    have hs01 := q1.size
    clear q1
    go_wp2_with (go_at_call 57; refine (code_A _).mono ?_; rintro e w4 ⟨rfl, b4⟩)
    go_ret2
    exact ⟨rfl, (HQ.out.trans (Below.alloc (Below.refl _ _) hs01 _)).trans (b4.mono (by simp; omega))⟩
end Go.Proofs.YtgimpmdiilmkoaaDoor
