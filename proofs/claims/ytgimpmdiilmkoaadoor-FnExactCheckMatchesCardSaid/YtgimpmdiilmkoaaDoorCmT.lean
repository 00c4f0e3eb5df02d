/-
  CheckMatches: the model's, whatever the arguments are.
-/
import Derived.Test.YtgimpmdiilmkoaaDoorCmS
namespace Go.Proofs.YtgimpmdiilmkoaaDoor
open Go Go.RowKit
set_option linter.unusedVariables false

theorem ret_cmB {a b : Bool} {c d : Int} (h : a = b) (g : c = d) : Ending.returned (.tuple #[.bool a, .int .i64 c]) = .returned (.tuple #[.bool b, .int .i64 d]) := by rw [h, g]
set_option maxHeartbeats 4000000 in
set_option maxRecDepth 100000 in
theorem scheck_any (v u x : Value) (ps : List Q5) (rs : List Q4) (ms : List Q3) (days : Int) (w : World) (hv : ReadsOd w v ps) (hu : ReadsRt w u rs) (hxr : ReadsMa w x ms) (hfo : FitsOd ps) (hfr : FitsRt rs) (hfm : FitsMa ms) (hx : ps.length ≤ 1048576) (hy : rs.length ≤ 1048576) (hz : ms.length ≤ 1048576) :
    Calls Tryd.prog 36 #[v, u, .int .i64 days, x] w fun e w' => e = .returned (.tuple #[.bool (cmR ps rs days ms), .int .i64 (cmC ps rs days ms)]) ∧ Below w.heap.size w w' := by
  by_cases hb : bkC ps rs (dayB days) = 0
  · by_cases hl : 100 < ms.length
    · have hc := cm_long hb hl
      have hr := cm_no hc (by decide)
      rw [hc, hr]
      have HV := Lib.hid hv
      have HU := Lib.hid hu
      obtain ⟨a3, b3, cap3, rfl, ha3, hc3⟩ := cells_orM hxr
      have HB0 := Lib.hid hb
      obtain ⟨l, hl'⟩ : ∃ l, ms.length = l := ⟨_, rfl⟩
      rw [hl'] at hl hz ⊢
      have hd100 : decide ((100 : Int) < (l : Int)) = true := decide_eq_true (by omega)
      clear hb hc hr hv hu hxr ha3 hc3 hl' hl
      go_enter Tryd.func36, Tryd.ntmps36
      go_wp2_with fail
      refine (sdays_any _ _).mono ?_
      rintro e w1 ⟨rfl, hw1⟩
      rw [hw1]
      clear hw1 w1
      go_wp2_with fail
      refine (sasked_any _ _ ps rs _ _ HV.out HU.out hfo hfr hx hy).mono ?_
      rintro e w1 ⟨rfl, q1⟩
      rw [HB0.out]
      have HQ := Lib.hid q1
      clear q1
      go_wp2_with fail
      go_ret2
      exact ⟨rfl, HQ.out⟩
    · have g := bkC_ok hb
      obtain ⟨e1, e2⟩ := cm_ok hb hl
      rw [e1, e2]
      exact scheck_ok v u x ps rs ms days w hv hu hxr hfo hfr hfm g.1 g.2.1 g.2.2 hl
  · obtain ⟨c, hc⟩ : ∃ c, bkC ps rs (dayB days) = c := ⟨_, rfl⟩
    have hb : ¬ c = 0 := by rw [← hc]; exact hb
    have h1 := cm_bk (ms := ms) hc hb
    rw [cm_no h1 hb, h1]
    have HV := Lib.hid hv
    have HU := Lib.hid hu
    obtain ⟨a3, b3, cap3, rfl, ha3, hc3⟩ := cells_orM hxr
    have HB0 := Lib.hid hc
    have hcz : (c == 0) = false := by simpa using hb
    clear hb hc h1 hv hu hxr ha3 hc3
    go_enter Tryd.func36, Tryd.ntmps36
    go_wp2_with fail
    refine (sdays_any _ _).mono ?_
    rintro e w1 ⟨rfl, hw1⟩
    rw [hw1]
    clear hw1 w1
    go_wp2_with fail
    refine (sasked_any _ _ ps rs _ _ HV.out HU.out hfo hfr hx hy).mono ?_
    rintro e w1 ⟨rfl, q1⟩
    rw [HB0.out]
    have HQ := Lib.hid q1
    clear q1
    go_wp2_with fail
    go_ret2
    exact ⟨rfl, HQ.out⟩
end Go.Proofs.YtgimpmdiilmkoaaDoor
